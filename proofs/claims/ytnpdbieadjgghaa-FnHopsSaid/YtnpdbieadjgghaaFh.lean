/- FnHops: the walk. -/
import Derived.Test.YtnpdbieadjgghaaMo
import Derived.Test.YtnpdbieadjgghaaKq
import Derived.Test.YtnpdbieadjgghaaTl
import Derived.Test.YtnpdbieadjgghaaRa
import Derived.Test.YtnpdbieadjgghaaIc
import Derived.Test.YtnpdbieadjgghaaDt
import Derived.Test.YtnpdbieadjgghaaSq
import Derived.Test.YtnpdbieadjgghaaWn
import Derived.Test.YtnpdbieadjgghaaKt
import Derived.Test.YtnpdbieadjgghaaIt
namespace Go.Proofs.Ytnpdbieadjgghaa
open Go.RowKit

theorem mem_hops {M s o : Nat} {L : List Ed} (hG : gok (M : Int) L = true) (hs : s < M) (ho : o < M) {z : Int} : z ∈ hopsL (M : Int) L (s : Int) (o : Int) ↔ tgP (M : Int) L (o : Int) (s : Int) z := by
  have hN := gok_parts hG
  unfold hopsL
  rw [if_pos ⟨hG, by unfold ndB; rw [inB_iff]; omega, by unfold ndB; rw [inB_iff]; omega⟩, mem_setL]
  constructor
  · exact fun h => of_decide_eq_true h.2
  · exact fun h => by
      have hf := tgP.facts hG h
      exact ⟨by omega, decide_eq_true h⟩
theorem hops_iff {M s o : Nat} {L : List Ed} (hG : gok (M : Int) L = true) (hs : s < M) (ho : o < M) : 0 < (hopsL (M : Int) L (s : Int) (o : Int)).length ↔ ((o : Int) ≠ (s : Int) ∧ dsT (M : Int) L (s : Int) (o : Int) < 1000000) := by
  have hb := dsT_in hG hs (o : Int)
  constructor
  · intro h
    obtain ⟨z, hz⟩ := List.exists_mem_of_length_pos h
    have hz := (mem_hops hG hs ho).1 hz
    have hf := tgP.facts hG hz
    have hne := hf.2.2.2
    unfold Far at hne
    exact ⟨fun e => tgP_self (x := (s : Int)) (z := z) hG (by omega) (by rw [e] at hz; exact hz), by omega⟩
  · rintro ⟨h1, h2⟩
    obtain ⟨y, hy⟩ := tgP.exists (N := (M : Int)) (L := L) (o := (o : Int)) (x := (s : Int)) hG (by omega) (by omega) (fun e => h1 e.symm) (by unfold Far; omega)
    exact List.length_pos_of_mem ((mem_hops hG hs ho).2 hy)
theorem hop_sum {M s o : Nat} {L : List Ed} (hG : gok (M : Int) L = true) (hs : s < M) (ho : o < M) {z : Int} (hz : z ∈ hopsL (M : Int) L (s : Int) (o : Int)) : (0 ≤ z ∧ z < (M : Int)) ∧ cofM (M : Int) L (s : Int) z + dsT (M : Int) L z (o : Int) = dsT (M : Int) L (s : Int) (o : Int) := by
  have ht := (mem_hops hG hs ho).1 hz
  have hf := tgP.facts hG ht
  obtain ⟨h1, h2, h3⟩ := ht
  have hc := cst_near hG h1
  refine ⟨hf.2.1, ?_⟩
  unfold cofM
  rw [if_pos hG]
  unfold scost
  rw [if_pos ⟨by unfold ndB; rw [inB_iff]; omega, by unfold ndB; rw [inB_iff]; omega⟩, if_neg hc.2.2.1]
  exact h3
theorem Gw.last {N : Int} {L : List Ed} {o : Int} {S : Int → Int} {l : List Int} (h : Gw N L o S l) : 1 < l.length → tgP N L o (prd l) o := by
  induction h with
  | one => intro h; simp at h
  | cons x y l hxo hn hmin hg ih =>
    intro _
    cases l with
    | nil =>
      cases hg
      exact hn.1
    | cons z l =>
      have := ih (by simp)
      have e : prd (x :: y :: z :: l) = prd (y :: z :: l) := by
        unfold prd
        rw [if_pos (by simp), if_pos (by simp)]
        simp only [List.length_cons]
        rw [show l.length + 1 + 1 + 1 - 2 = (l.length + 1 + 1 - 2) + 1 by omega]
        rfl
      rw [e]
      exact this
theorem tree_hops {M s o : Nat} {L : List Ed} {f : Int → Int} (hG : gok (M : Int) L = true) (hs : s < M) (ho : o < M) (hf : TreeP (M : Int) L (s : Int) f) :
    (hopsL (M : Int) L (s : Int) (o : Int) = [] ∧ f (o : Int) = -1) ∨ (0 < (hopsL (M : Int) L (s : Int) (o : Int)).length ∧ ∃ y : Nat, y < M ∧ f (o : Int) = (y : Int) ∧ (o : Int) ∈ hopsL (M : Int) L (y : Int) (o : Int)) := by
  have hb := dsT_in hG hs (o : Int)
  have hi := hops_iff hG hs ho
  have ht := hf (o : Int) (by omega)
  by_cases hd : dsT (M : Int) L (s : Int) (o : Int) = Far
  · refine .inl ⟨?_, ht.1 hd⟩
    unfold Far at hd
    exact List.eq_nil_of_length_eq_zero (by omega)
  · obtain ⟨l, hl⟩ := WayP.ex (s := (s : Int)) (o := (o : Int)) hG (by omega) (by omega) hd
    have e := ht.2 l hl
    obtain ⟨S, hS, hg⟩ := hl
    by_cases hso : (s : Int) = (o : Int)
    · refine .inl ⟨List.eq_nil_of_length_eq_zero (by omega), ?_⟩
      rw [hso] at hg e
      cases hg with
      | one => exact e
      | cons _ _ _ h1 => exact absurd rfl h1
    · refine .inr ⟨hi.2 ⟨fun e => hso e.symm, by unfold Far at hd; omega⟩, ?_⟩
      have h1 : 1 < ((s : Int) :: l).length := by
        cases hg with
        | one => exact absurd rfl hso
        | cons => simp
      have h2 := hg.last h1
      rw [← e] at h2
      have h3 := tgP.facts hG h2
      refine ⟨(f (o : Int)).toNat, by omega, by omega, (mem_hops hG (by omega) ho).2 ?_⟩
      rw [show (((f (o : Int)).toNat : Nat) : Int) = f (o : Int) by omega]
      exact h2

set_option maxHeartbeats 2000000 in
theorem icof_any (N : Int) (lo hi n : Nat) (v : Value) (L : List Ed) (x y : Int) (w : World) (hL : L.length = n) (hr : Row 3 w lo hi v n (flat L)) (hh : hi ≤ w.heap.size) :
    Calls Try.prog 39 #[.agg #[.int .i64 N, v], .int .i64 x, .int .i64 y] w fun e w' => e = .returned (.int .i64 (cofM N L x y)) ∧ Below w.heap.size w w' := by
  have HR := Lib.hid hr
  obtain ⟨ad, cp, rfl⟩ := hr.slice
  clear hr
  by_cases hG : gok N L = true
  · have e : cofM N L x y = scost N L x y := by unfold cofM; rw [if_pos hG]
    rw [e]
    clear e
    have hN1 := (gok_parts hG).1
    have hN2 := (gok_parts hG).2.1
    by_cases h1 : ndB N x = true
    · by_cases h2 : ndB N y = true
      · by_cases h3 : x = y
        · have e : scost N L x y = 0 := by unfold scost; rw [if_pos ⟨h1, h2⟩, if_pos h3]
          rw [e]
          have h4 : (x == y) = true := by simp [h3]
          clear h3 e
          go_enter Try.func39, Try.ntmps39
          go_wp2_with fail
          go_at_call 75
          refine (igok_any N lo hi n _ L _ hL (HR.out.below (B := w.heap.size) (by go_grown) (by omega)) (by simp; omega)).mono ?_
          rw [hG]
          rintro e v1 ⟨rfl, hb1⟩
          have sz1 : w.heap.size + 1 ≤ v1.heap.size := by have hh := hb1.size; simp at hh; omega
          have st1 : Below w.heap.size w v1 := Below.trans (by go_grown) (hb1.mono (by simp))
          have c1_0 : v1.cell? ⟨w.heap.size, 0, none⟩ = some (.int .i64 N) := by rw [(bcell hb1).1 _ _ (by simp)]; simp
          have c1_1 : v1.cell? ⟨w.heap.size, 1, none⟩ = some (.slice ad n cp) := by rw [(bcell hb1).1 _ _ (by simp)]; simp
          have B1 : Hid (Below w.heap.size w v1) := st1
          have R1_0 : Hid (Row 3 v1 (lo) (hi) (.slice ad n cp) n (flat L)) := HR.out.below st1 (by omega)
          have d1_0 : w.heap.size < v1.heap.size := by omega
          have e1_0 : w.heap.size ≠ v1.heap.size := by omega
          clear st1 HR hb1
          go_wp2_with fail
          go_at_call 66
          refine (hasNode_any N _ _ _ x _).mono ?_
          rw [h1]
          rintro e v2 ⟨rfl, hb2⟩
          have sz2 : v1.heap.size ≤ v2.heap.size := hb2.size
          have st2 : Below v1.heap.size v1 v2 := hb2
          have c2_0 : v2.cell? ⟨w.heap.size, 0, none⟩ = some (.int .i64 N) := by rw [(bcell st2).1 _ _ (by omega)]; exact c1_0
          have c2_1 : v2.cell? ⟨w.heap.size, 1, none⟩ = some (.slice ad n cp) := by rw [(bcell st2).1 _ _ (by omega)]; exact c1_1
          have B2 : Hid (Below w.heap.size w v2) := B1.out.trans (st2.mono (by omega))
          have R2_0 : Hid (Row 3 v2 (lo) (hi) (.slice ad n cp) n (flat L)) := R1_0.out.below st2 (by omega)
          have d2_0 : w.heap.size < v2.heap.size := by omega
          have e2_0 : w.heap.size ≠ v2.heap.size := by omega
          clear d1_0 e1_0 c1_0 c1_1 B1 st2 R1_0 hb2
          go_wp2_with fail
          go_at_call 66
          refine (hasNode_any N _ _ _ y _).mono ?_
          rw [h2]
          rintro e v3 ⟨rfl, hb3⟩
          have sz3 : v2.heap.size ≤ v3.heap.size := hb3.size
          have st3 : Below v2.heap.size v2 v3 := hb3
          have c3_0 : v3.cell? ⟨w.heap.size, 0, none⟩ = some (.int .i64 N) := by rw [(bcell st3).1 _ _ (by omega)]; exact c2_0
          have c3_1 : v3.cell? ⟨w.heap.size, 1, none⟩ = some (.slice ad n cp) := by rw [(bcell st3).1 _ _ (by omega)]; exact c2_1
          have B3 : Hid (Below w.heap.size w v3) := B2.out.trans (st3.mono (by omega))
          have R3_0 : Hid (Row 3 v3 (lo) (hi) (.slice ad n cp) n (flat L)) := R2_0.out.below st3 (by omega)
          have d3_0 : w.heap.size < v3.heap.size := by omega
          have e3_0 : w.heap.size ≠ v3.heap.size := by omega
          clear d2_0 e2_0 c2_0 c2_1 B2 st3 R2_0 hb3
          go_wp2_with fail
          go_ret
          exact ⟨rfl, B3.out⟩
        · have e : scost N L x y = cst L x y := by unfold scost; rw [if_pos ⟨h1, h2⟩, if_neg h3]
          rw [e]
          have h4 : (x == y) = false := by simp [h3]
          have hx : 0 ≤ x ∧ x < 10 := by unfold ndB at h1; rw [inB_iff] at h1; omega
          have hy : 0 ≤ y ∧ y < 10 := by unfold ndB at h2; rw [inB_iff] at h2; omega
          have i1 := index68 L x hx
          have i2 := index66 L x y hx hy
          clear h3 e
          go_enter Try.func39, Try.ntmps39
          go_wp2_with fail
          go_at_call 75
          refine (igok_any N lo hi n _ L _ hL (HR.out.below (B := w.heap.size) (by go_grown) (by omega)) (by simp; omega)).mono ?_
          rw [hG]
          rintro e v1 ⟨rfl, hb1⟩
          have sz1 : w.heap.size + 1 ≤ v1.heap.size := by have hh := hb1.size; simp at hh; omega
          have st1 : Below w.heap.size w v1 := Below.trans (by go_grown) (hb1.mono (by simp))
          have c1_0 : v1.cell? ⟨w.heap.size, 0, none⟩ = some (.int .i64 N) := by rw [(bcell hb1).1 _ _ (by simp)]; simp
          have c1_1 : v1.cell? ⟨w.heap.size, 1, none⟩ = some (.slice ad n cp) := by rw [(bcell hb1).1 _ _ (by simp)]; simp
          have B1 : Hid (Below w.heap.size w v1) := st1
          have R1_0 : Hid (Row 3 v1 (lo) (hi) (.slice ad n cp) n (flat L)) := HR.out.below st1 (by omega)
          have d1_0 : w.heap.size < v1.heap.size := by omega
          have e1_0 : w.heap.size ≠ v1.heap.size := by omega
          clear st1 HR hb1
          go_wp2_with fail
          go_at_call 66
          refine (hasNode_any N _ _ _ x _).mono ?_
          rw [h1]
          rintro e v2 ⟨rfl, hb2⟩
          have sz2 : v1.heap.size ≤ v2.heap.size := hb2.size
          have st2 : Below v1.heap.size v1 v2 := hb2
          have c2_0 : v2.cell? ⟨w.heap.size, 0, none⟩ = some (.int .i64 N) := by rw [(bcell st2).1 _ _ (by omega)]; exact c1_0
          have c2_1 : v2.cell? ⟨w.heap.size, 1, none⟩ = some (.slice ad n cp) := by rw [(bcell st2).1 _ _ (by omega)]; exact c1_1
          have B2 : Hid (Below w.heap.size w v2) := B1.out.trans (st2.mono (by omega))
          have R2_0 : Hid (Row 3 v2 (lo) (hi) (.slice ad n cp) n (flat L)) := R1_0.out.below st2 (by omega)
          have d2_0 : w.heap.size < v2.heap.size := by omega
          have e2_0 : w.heap.size ≠ v2.heap.size := by omega
          clear d1_0 e1_0 c1_0 c1_1 B1 st2 R1_0 hb2
          go_wp2_with fail
          go_at_call 66
          refine (hasNode_any N _ _ _ y _).mono ?_
          rw [h2]
          rintro e v3 ⟨rfl, hb3⟩
          have sz3 : v2.heap.size ≤ v3.heap.size := hb3.size
          have st3 : Below v2.heap.size v2 v3 := hb3
          have c3_0 : v3.cell? ⟨w.heap.size, 0, none⟩ = some (.int .i64 N) := by rw [(bcell st3).1 _ _ (by omega)]; exact c2_0
          have c3_1 : v3.cell? ⟨w.heap.size, 1, none⟩ = some (.slice ad n cp) := by rw [(bcell st3).1 _ _ (by omega)]; exact c2_1
          have B3 : Hid (Below w.heap.size w v3) := B2.out.trans (st3.mono (by omega))
          have R3_0 : Hid (Row 3 v3 (lo) (hi) (.slice ad n cp) n (flat L)) := R2_0.out.below st3 (by omega)
          have d3_0 : w.heap.size < v3.heap.size := by omega
          have e3_0 : w.heap.size ≠ v3.heap.size := by omega
          clear d2_0 e2_0 c2_0 c2_1 B2 st3 R2_0 hb3
          go_wp2_with fail
          go_at_call 81
          refine (costs_any N lo hi n _ L _ hG hL R3_0.out (by omega)).mono ?_
          rintro e v4 ⟨rfl, hb4⟩
          have sz4 : v3.heap.size ≤ v4.heap.size := hb4.size
          have st4 : Below v3.heap.size v3 v4 := hb4
          have c4_0 : v4.cell? ⟨w.heap.size, 0, none⟩ = some (.int .i64 N) := by rw [(bcell st4).1 _ _ (by omega)]; exact c3_0
          have c4_1 : v4.cell? ⟨w.heap.size, 1, none⟩ = some (.slice ad n cp) := by rw [(bcell st4).1 _ _ (by omega)]; exact c3_1
          have B4 : Hid (Below w.heap.size w v4) := B3.out.trans (st4.mono (by omega))
          have R4_0 : Hid (Row 3 v4 (lo) (hi) (.slice ad n cp) n (flat L)) := R3_0.out.below st4 (by omega)
          have d4_0 : w.heap.size < v4.heap.size := by omega
          have e4_0 : w.heap.size ≠ v4.heap.size := by omega
          clear d3_0 e3_0 c3_0 c3_1 B3 st4 R3_0 hb4
          go_wp2_with fail
          go_ret
          exact ⟨rfl, B4.out⟩
      · rw [Bool.not_eq_true] at h2
        have e : scost N L x y = 1000000 := by unfold scost; rw [if_neg (fun hh => by rw [h2] at hh; exact absurd hh.2 (by decide))]; rfl
        rw [e]
        clear e
        go_enter Try.func39, Try.ntmps39
        go_wp2_with fail
        go_at_call 75
        refine (igok_any N lo hi n _ L _ hL (HR.out.below (B := w.heap.size) (by go_grown) (by omega)) (by simp; omega)).mono ?_
        rw [hG]
        rintro e v1 ⟨rfl, hb1⟩
        have sz1 : w.heap.size + 1 ≤ v1.heap.size := by have hh := hb1.size; simp at hh; omega
        have st1 : Below w.heap.size w v1 := Below.trans (by go_grown) (hb1.mono (by simp))
        have c1_0 : v1.cell? ⟨w.heap.size, 0, none⟩ = some (.int .i64 N) := by rw [(bcell hb1).1 _ _ (by simp)]; simp
        have c1_1 : v1.cell? ⟨w.heap.size, 1, none⟩ = some (.slice ad n cp) := by rw [(bcell hb1).1 _ _ (by simp)]; simp
        have B1 : Hid (Below w.heap.size w v1) := st1
        have R1_0 : Hid (Row 3 v1 (lo) (hi) (.slice ad n cp) n (flat L)) := HR.out.below st1 (by omega)
        have d1_0 : w.heap.size < v1.heap.size := by omega
        have e1_0 : w.heap.size ≠ v1.heap.size := by omega
        clear st1 HR hb1
        go_wp2_with fail
        go_at_call 66
        refine (hasNode_any N _ _ _ x _).mono ?_
        rw [h1]
        rintro e v2 ⟨rfl, hb2⟩
        have sz2 : v1.heap.size ≤ v2.heap.size := hb2.size
        have st2 : Below v1.heap.size v1 v2 := hb2
        have c2_0 : v2.cell? ⟨w.heap.size, 0, none⟩ = some (.int .i64 N) := by rw [(bcell st2).1 _ _ (by omega)]; exact c1_0
        have c2_1 : v2.cell? ⟨w.heap.size, 1, none⟩ = some (.slice ad n cp) := by rw [(bcell st2).1 _ _ (by omega)]; exact c1_1
        have B2 : Hid (Below w.heap.size w v2) := B1.out.trans (st2.mono (by omega))
        have R2_0 : Hid (Row 3 v2 (lo) (hi) (.slice ad n cp) n (flat L)) := R1_0.out.below st2 (by omega)
        have d2_0 : w.heap.size < v2.heap.size := by omega
        have e2_0 : w.heap.size ≠ v2.heap.size := by omega
        clear d1_0 e1_0 c1_0 c1_1 B1 st2 R1_0 hb2
        go_wp2_with fail
        go_at_call 66
        refine (hasNode_any N _ _ _ y _).mono ?_
        rw [h2]
        rintro e v3 ⟨rfl, hb3⟩
        have sz3 : v2.heap.size ≤ v3.heap.size := hb3.size
        have st3 : Below v2.heap.size v2 v3 := hb3
        have c3_0 : v3.cell? ⟨w.heap.size, 0, none⟩ = some (.int .i64 N) := by rw [(bcell st3).1 _ _ (by omega)]; exact c2_0
        have c3_1 : v3.cell? ⟨w.heap.size, 1, none⟩ = some (.slice ad n cp) := by rw [(bcell st3).1 _ _ (by omega)]; exact c2_1
        have B3 : Hid (Below w.heap.size w v3) := B2.out.trans (st3.mono (by omega))
        have R3_0 : Hid (Row 3 v3 (lo) (hi) (.slice ad n cp) n (flat L)) := R2_0.out.below st3 (by omega)
        have d3_0 : w.heap.size < v3.heap.size := by omega
        have e3_0 : w.heap.size ≠ v3.heap.size := by omega
        clear d2_0 e2_0 c2_0 c2_1 B2 st3 R2_0 hb3
        go_wp2_with fail
        go_ret
        exact ⟨rfl, B3.out⟩
    · rw [Bool.not_eq_true] at h1
      have e : scost N L x y = 1000000 := by unfold scost; rw [if_neg (fun hh => by rw [h1] at hh; exact absurd hh.1 (by decide))]; rfl
      rw [e]
      clear e
      go_enter Try.func39, Try.ntmps39
      go_wp2_with fail
      go_at_call 75
      refine (igok_any N lo hi n _ L _ hL (HR.out.below (B := w.heap.size) (by go_grown) (by omega)) (by simp; omega)).mono ?_
      rw [hG]
      rintro e v1 ⟨rfl, hb1⟩
      have sz1 : w.heap.size + 1 ≤ v1.heap.size := by have hh := hb1.size; simp at hh; omega
      have st1 : Below w.heap.size w v1 := Below.trans (by go_grown) (hb1.mono (by simp))
      have c1_0 : v1.cell? ⟨w.heap.size, 0, none⟩ = some (.int .i64 N) := by rw [(bcell hb1).1 _ _ (by simp)]; simp
      have c1_1 : v1.cell? ⟨w.heap.size, 1, none⟩ = some (.slice ad n cp) := by rw [(bcell hb1).1 _ _ (by simp)]; simp
      have B1 : Hid (Below w.heap.size w v1) := st1
      have R1_0 : Hid (Row 3 v1 (lo) (hi) (.slice ad n cp) n (flat L)) := HR.out.below st1 (by omega)
      have d1_0 : w.heap.size < v1.heap.size := by omega
      have e1_0 : w.heap.size ≠ v1.heap.size := by omega
      clear st1 HR hb1
      go_wp2_with fail
      go_at_call 66
      refine (hasNode_any N _ _ _ x _).mono ?_
      rw [h1]
      rintro e v2 ⟨rfl, hb2⟩
      have sz2 : v1.heap.size ≤ v2.heap.size := hb2.size
      have st2 : Below v1.heap.size v1 v2 := hb2
      have c2_0 : v2.cell? ⟨w.heap.size, 0, none⟩ = some (.int .i64 N) := by rw [(bcell st2).1 _ _ (by omega)]; exact c1_0
      have c2_1 : v2.cell? ⟨w.heap.size, 1, none⟩ = some (.slice ad n cp) := by rw [(bcell st2).1 _ _ (by omega)]; exact c1_1
      have B2 : Hid (Below w.heap.size w v2) := B1.out.trans (st2.mono (by omega))
      have R2_0 : Hid (Row 3 v2 (lo) (hi) (.slice ad n cp) n (flat L)) := R1_0.out.below st2 (by omega)
      have d2_0 : w.heap.size < v2.heap.size := by omega
      have e2_0 : w.heap.size ≠ v2.heap.size := by omega
      clear d1_0 e1_0 c1_0 c1_1 B1 st2 R1_0 hb2
      go_wp2_with fail
      go_ret
      exact ⟨rfl, B2.out⟩
  · rw [Bool.not_eq_true] at hG
    have e : cofM N L x y = -1 := by unfold cofM; rw [if_neg (by rw [hG]; decide)]
    rw [e]
    clear e
    go_enter Try.func39, Try.ntmps39
    go_wp2_with fail
    go_at_call 75
    refine (igok_any N lo hi n _ L _ hL (HR.out.below (B := w.heap.size) (by go_grown) (by omega)) (by simp; omega)).mono ?_
    rw [hG]
    rintro e v1 ⟨rfl, hb1⟩
    have sz1 : w.heap.size + 1 ≤ v1.heap.size := by have hh := hb1.size; simp at hh; omega
    have st1 : Below w.heap.size w v1 := Below.trans (by go_grown) (hb1.mono (by simp))
    have c1_0 : v1.cell? ⟨w.heap.size, 0, none⟩ = some (.int .i64 N) := by rw [(bcell hb1).1 _ _ (by simp)]; simp
    have c1_1 : v1.cell? ⟨w.heap.size, 1, none⟩ = some (.slice ad n cp) := by rw [(bcell hb1).1 _ _ (by simp)]; simp
    have B1 : Hid (Below w.heap.size w v1) := st1
    have R1_0 : Hid (Row 3 v1 (lo) (hi) (.slice ad n cp) n (flat L)) := HR.out.below st1 (by omega)
    have d1_0 : w.heap.size < v1.heap.size := by omega
    have e1_0 : w.heap.size ≠ v1.heap.size := by omega
    clear st1 HR hb1
    go_wp2_with fail
    go_ret
    exact ⟨rfl, B1.out⟩

/-- Rows of rows lie in memory. -/
def RowsAt (w : World) (G K : Nat) (vs : Nat → Value) (Z : Nat → List Int) : Prop := ∀ d, d < K → w.cell? ⟨G, d, none⟩ = some (vs d) ∧ ∃ lo hi, Row 1 w lo hi (vs d) (Z d).length (Z d) ∧ hi ≤ w.heap.size
theorem cell_kept {w w' : World} {p : Addr} {v : Value} (h : Below w.heap.size w w') (hc : w.cell? p = some v) : w'.cell? p = some v := by rw [h.cell (lt_of_cell hc).1]; exact hc
theorem RowsAt.below {w w' : World} {G K : Nat} {vs : Nat → Value} {Z : Nat → List Int} (h : RowsAt w G K vs Z) (b : Below w.heap.size w w') : RowsAt w' G K vs Z := fun d hd => by
  obtain ⟨h1, lo, hi, h2, h3⟩ := h d hd
  exact ⟨cell_kept b h1, lo, hi, h2.below b h3, Nat.le_trans h3 b.size⟩
theorem SSt.rows {w0 w : World} {G c k : Nat} {ZZ : Nat → List Int} {vs : Nat → Value} {bs : Nat → Nat × Nat} (h : SSt w0 w (.slice (some ⟨G, 0, none⟩) k c) k ZZ vs bs) : RowsAt w G k vs ZZ := fun d hd => by
  obtain ⟨h1, h2, h3⟩ := h.inner d hd
  refine ⟨?_, _, _, h1, h3⟩
  rw [h.row.cellAt d (by omega)]
  simp [hd]
/-- A table of numbers lies in memory. -/
def NumsAt (w : World) (G K : Nat) (f : Int → Int) : Prop := ∀ d, d < K → w.cell? ⟨G, d, none⟩ = some (.int .i64 (f (d : Int)))
theorem NumsAt.below {w w' : World} {G K : Nat} {f : Int → Int} (h : NumsAt w G K f) (b : Below w.heap.size w w') : NumsAt w' G K f := fun d hd => cell_kept b (h d hd)
theorem nums_of {w : World} {G K : Nat} {f : Int → Int} (h : ∀ j z, (tabI K f)[j]? = some z → w.cell? ⟨G, j, none⟩ = some (.int .i64 z)) : NumsAt w G K f := fun d hd => h d _ (tabI_at f hd)
theorem distL_yes {M s : Nat} {L : List Ed} (hG : gok (M : Int) L = true) (hs : s < M) : distL (M : Int) L (s : Int) = tabI M (dsT (M : Int) L (s : Int)) := by
  unfold distL
  rw [distN_yes hG hs]
  rfl
theorem hops_len (N : Int) (L : List Ed) (x y : Int) : (hopsL N L x y).length ≤ 10 := by
  unfold hopsL
  split
  · exact nodup_bound 10 _ ((setL_sorted _).imp (fun h e => by omega)) (fun z hz => (mem_setL.1 hz).1)
  · simp
set_option maxRecDepth 100000 in
set_option maxHeartbeats 4000000 in
theorem fnhops_any (a : Option Addr) (n cp : Nat) (w : World) (hb : n ≤ 1099511627776 → BytesAt w a n) (hold : ∀ p : Addr, a = some p → p.block < w.heap.size) : Calls Try.prog 9 #[.slice a n cp] w fun e w' => e = .returned (.bool true) ∧ Below w.heap.size w w' := by
  have HO := Lib.hid hold
  have HB := Lib.hid hb
  clear hb hold
  go_enter Try.func9, Try.ntmps9
  go_wp2_with fail
  go_at_call 31
  refine (big_any a n cp _).mono ?_
  rintro e w' ⟨rfl, rfl⟩
  by_cases hbig : (n : Int) > 1048576
  · rw [decide_eq_true hbig]
    go_wp2_with fail
    go_ret
    exact ⟨rfl, Below.refl _ _⟩
  rw [decide_eq_false hbig]
  go_wp2_with fail
  go_at_call 32
  refine (dhop_any a n cp _ (HB.out (by omega)) HO.out).mono ?_
  rintro e w1 ⟨N, gv, L, x, rfl, hr, hl, hb1⟩
  obtain ⟨ga, gc, hgv⟩ := hr.slice
  subst hgv
  have HR1 := Lib.hid hr
  clear hr HB HO hbig
  go_wp2_with fail
  obtain ⟨w2, hw2⟩ : ∃ q, q = w1.alloc (.cells #[.int .i64 N, .slice ga L.length gc] 29) := ⟨_, rfl⟩
  obtain ⟨X, hX⟩ : ∃ q, q = w1.heap.size := ⟨_, rfl⟩
  have x0 : w2.cell? ⟨X, 0, none⟩ = some (.int .i64 N) := by rw [hw2, hX]; simp
  have x1 : w2.cell? ⟨X, 1, none⟩ = some (.slice ga L.length gc) := by rw [hw2, hX]; simp
  have hb2 : Below w1.heap.size w1 w2 := by rw [hw2]; exact (Below.refl _ _).alloc (Nat.le_refl _) _
  have HR2 : Hid (Row 3 w2 w.heap.size w1.heap.size (.slice ga L.length gc) L.length (flat L)) := HR1.out.below hb2 (Nat.le_refl _)
  have HB2 : Hid (Below w.heap.size w w2) := hb1.trans (hb2.mono hb1.size)
  have hs12 := hb2.size
  rw [← hw2, ← hX]
  clear hw2 hX hb2 hb1 HR1
  go_at_call 33
  refine (sht_any N _ _ L.length _ L x w2 rfl HR2.out hs12).mono ?_
  rintro e w3 ⟨rv1, rfl, vs1, bs1, hS1⟩
  have hb3 := hS1.below
  have y0 := cell_kept hb3 x0
  have y1 := cell_kept hb3 x1
  have HR3 : Hid (Row 3 w3 w.heap.size w1.heap.size (.slice ga L.length gc) L.length (flat L)) := HR2.out.below hb3 hs12
  have HB3 : Hid (Below w.heap.size w w3) := HB2.out.trans (hb3.mono HB2.out.size)
  have hs13 : w1.heap.size ≤ w3.heap.size := Nat.le_trans hs12 hb3.size
  have HS1 := Lib.hid hS1
  clear HR2 HB2 hb3 hs12 x0 x1 hS1
  go_wp2_with fail
  go_at_call 34
  refine (iht_any N _ _ L.length _ L x w3 rfl HR3.out hs13).mono ?_
  rintro e w4 ⟨rv2, rfl, vs2, bs2, hS2⟩
  have hb4 := hS2.below
  have z0 := cell_kept hb4 y0
  have z1 := cell_kept hb4 y1
  have HR4 : Hid (Row 3 w4 w.heap.size w1.heap.size (.slice ga L.length gc) L.length (flat L)) := HR3.out.below hb4 hs13
  have HB4 : Hid (Below w.heap.size w w4) := HB3.out.trans (hb4.mono HB3.out.size)
  have hs14 : w1.heap.size ≤ w4.heap.size := Nat.le_trans hs13 hb4.size
  have HS1' := Lib.hid (HS1.out.grow hb4)
  have HS2 := Lib.hid hS2
  clear HR3 HB3 hb4 hs13 y0 y1 hS2 HS1
  by_cases hcs : gok N L = true ∧ ndB N x = true
  case neg =>
    have hk0 : htN N L x = 0 := if_neg hcs
    rw [hk0] at HS1' HS2
    obtain ⟨a1, c1, e1⟩ := own_slice HS1'.out.row
    obtain ⟨a2, c2, e2⟩ := own_slice HS2.out.row
    subst e1 e2
    clear hk0 hcs HS1' HS2
    go_wp2_with fail
    go_ret
    exact ⟨rfl, HB4.out⟩
  obtain ⟨hG, hx⟩ := hcs
  have hN := gok_parts hG
  obtain ⟨K, rfl⟩ : ∃ K : Nat, N = (K : Int) := ⟨N.toNat, by omega⟩
  have hx' := hx
  unfold ndB at hx'
  rw [inB_iff] at hx'
  obtain ⟨s, rfl⟩ : ∃ s : Nat, x = (s : Int) := ⟨x.toNat, by omega⟩
  have hs : s < K := by omega
  have hK1 : 0 < K ∧ K ≤ 10 := by omega
  rw [htN_yes hG hx] at HS1' HS2
  obtain ⟨G1, c1, e1, _, _⟩ := HS1'.out.row.form hK1.1
  obtain ⟨G2, c2, e2, _, _⟩ := HS2.out.row.form hK1.1
  subst e1 e2
  have HG := Lib.hid hG
  have HI1 := Lib.hid HS1'.out.rows
  have HI2 := Lib.hid HS2.out.rows
  have zk1 : ((K : Int) == 0) = false := beq_eq_false_iff_ne.2 (by omega)
  have zk2 : ¬ ((K : Int) = 0) := by omega
  clear hN hx hx' hG HS1' HS2
  go_wp2_with fail
  go_at_call 35
  refine (sdist_any (K : Int) _ _ L.length _ L (s : Int) w4 rfl HR4.out hs14).mono ?_
  rintro e w5 ⟨dv, rfl, hdr, hb5⟩
  rw [distN_yes HG.out hs, distL_yes HG.out hs] at hdr
  obtain ⟨D, cd, e1, _, _, hdc⟩ := row_cells hK1.1 hdr
  subst e1
  have HD := Lib.hid (nums_of hdc)
  have y0 := cell_kept hb5 z0
  have y1 := cell_kept hb5 z1
  have HR5 : Hid (Row 3 w5 w.heap.size w1.heap.size (.slice ga L.length gc) L.length (flat L)) := HR4.out.below hb5 hs14
  have HB5 : Hid (Below w.heap.size w w5) := HB4.out.trans (hb5.mono HB4.out.size)
  have hs15 : w1.heap.size ≤ w5.heap.size := Nat.le_trans hs14 hb5.size
  have HJ1 := Lib.hid ((HI1.out).below hb5)
  have HJ2 := Lib.hid ((HI2.out).below hb5)
  clear HR4 HB4 hb5 hs14 z0 z1 HI1 HI2 hdr hdc
  obtain ⟨f, hf⟩ := TreeP.ex HG.out (show 0 ≤ (s : Int) ∧ (s : Int) < (K : Int) by omega)
  have HTf := Lib.hid hf
  clear hf
  go_wp2_with fail
  go_at_call 36
  refine (itree_yes K _ _ L.length _ L s f w5 rfl HR5.out hs15 HG.out hs HTf.out).mono ?_
  rintro e wb ⟨tv, rfl, htr, hb6⟩
  obtain ⟨T, ct, e1, _, _, htc⟩ := row_cells hK1.1 htr
  subst e1
  have HT := Lib.hid (nums_of htc)
  have HX : Hid (wb.cell? ⟨X, 0, none⟩ = some (.int .i64 (K : Int)) ∧ wb.cell? ⟨X, 1, none⟩ = some (.slice ga L.length gc)) := ⟨cell_kept hb6 y0, cell_kept hb6 y1⟩
  have HRb : Hid (Row 3 wb w.heap.size w1.heap.size (.slice ga L.length gc) L.length (flat L)) := HR5.out.below hb6 hs15
  have HBb : Hid (Below w.heap.size w wb) := HB5.out.trans (hb6.mono HB5.out.size)
  have hsb : w1.heap.size ≤ wb.heap.size := Nat.le_trans hs15 hb6.size
  have HW1 := Lib.hid ((HJ1.out).below hb6)
  have HW2 := Lib.hid ((HJ2.out).below hb6)
  have HDb := Lib.hid ((HD.out).below hb6)
  clear HR5 HB5 hb6 hs15 y0 y1 HJ1 HJ2 HD htr htc
  go_wp2_with fail
  go_loopw [9] (fun i wr => ∃ k : Nat, k ≤ K ∧ i = .int .i64 (k : Int) ∧ Hid (Below wb.heap.size wb wr)) (fun i _ => K - (intOf i).toNat)
  case atStart => exact ⟨0, Nat.zero_le _, rfl, Lib.hid (Below.refl _ _)⟩
  case round =>
    obtain ⟨k, hk, rfl, hR⟩ := hrel
    have x0 := cell_kept hR.out HX.out.1
    have x1 := cell_kept hR.out HX.out.2
    by_cases hlt : k < K
    · have q0 : (k : Int) < (K : Int) := by omega
      have q1 : (0 : Int) ≤ (k : Int) := by omega
      go_wp2_with fail
      go_at_call 37
      refine (ihop_any (K : Int) _ _ L.length _ L (s : Int) (k : Int) wr rfl (HRb.out.below hR.out hsb) (Nat.le_trans hsb hR.out.size)).mono ?_
      rintro e wh ⟨hv, rfl, hhr, hbh⟩
      have HBh : Hid (Below wb.heap.size wb wh) := hR.out.trans (hbh.mono hR.out.size)
      have hlen := hops_len (K : Int) L (s : Int) (k : Int)
      have hcs := tree_hops HG.out hs hlt HTf.out
      have hif := hops_iff HG.out hs hlt
      obtain ⟨e1, lo1, hi1, hr1, hh1⟩ := HW1.out k hlt
      obtain ⟨e2, lo2, hi2, hr2, hh2⟩ := HW2.out k hlt
      have hsm : ∀ z, z ∈ hopsL (K : Int) L (s : Int) (k : Int) → _ := fun z hz => hop_sum HG.out hs hlt hz
      unfold htZ at hr1 hr2
      generalize hopsL (K : Int) L (s : Int) (k : Int) = Z at hhr hlen hcs hif hr1 hr2 hsm
      obtain ⟨m, hm⟩ : ∃ m, m = Z.length := ⟨_, rfl⟩
      rw [← hm] at hhr hlen hcs hif hr1 hr2
      obtain ⟨ah, ch, rfl⟩ := hhr.slice
      have HH := Lib.hid hhr
      have H1 := Lib.hid (hr1.below HBh.out hh1)
      have H2 := Lib.hid (hr2.below HBh.out hh2)
      have r1 := cell_kept HBh.out e1
      have r2 := cell_kept HBh.out e2
      have r3 := cell_kept HBh.out (HDb.out k hlt)
      have r4 := cell_kept HBh.out (HT.out k hlt)
      have HSM := Lib.hid hsm
      have HM := Lib.hid hm
      have hdb := dsT_in HG.out hs (k : Int)
      have HS1 : hi1 ≤ wh.heap.size := Nat.le_trans hh1 HBh.out.size
      have HS2 : hi2 ≤ wh.heap.size := Nat.le_trans hh2 HBh.out.size
      generalize vs1 k = v1 at e1 H1 r1 hr1
      generalize vs2 k = v2 at e2 H2 r2 hr2
      clear hhr hbh hR x0 x1 e1 e2 hr1 hr2 hh1 hh2 hsm hm
      have x0 := cell_kept HBh.out HX.out.1
      have x1 := cell_kept HBh.out HX.out.2
      go_wp2_with fail
      obtain ⟨dd, hdd⟩ : ∃ d, d = dsT (K : Int) L (s : Int) (k : Int) := ⟨_, rfl⟩
      rw [← hdd] at r3 hdb hif
      have HDD := Lib.hid hdd
      clear hdd
      rcases hcs with ⟨hZ0, hf1⟩ | ⟨hm0, y, hy, hfy, hyin⟩
      · have hm0 : m = 0 := by rw [HM.out, hZ0]; rfl
        rw [hf1] at r4
        have hge0 : ¬ ((0 : Int) < ((0 : Nat) : Int)) := by omega
        by_cases hks : (k : Int) = (s : Int)
        · have n1 : ((k : Int) != (s : Int)) = false := by simp [hks]
          subst hm0
          clear hif hdb hlen hZ0 hf1 hks
          refine wp_region_held_drew (S := (fun w' => w'.cell? ⟨G2, k, none⟩ = some v2 ∧ w'.cell? ⟨G1, k, none⟩ = some v1 ∧ w'.cell? ⟨D, k, none⟩ = some (.int .i64 dd) ∧ Hid (Below wh.heap.size wh w'))) (by kernel_rfl) ?_ (fun hHeld => ?_)
          · exact ⟨r2, r1, r3, Lib.hid (Below.refl _ _).drew⟩
          refine step_read 0 49 rfl rfl (by kernel_rfl) (by kernel_rfl) (by kernel_rfl) (fun _ _ _ h => h) (by rfl) (v := ?_) (fun w hSw => ?_) (by assumption) ?_; rotate_left; (focus ((try dsimp only at hSw); go_simp; first | done | exact rfl)); simp only [List.set]
          refine step_read 1 50 rfl rfl (by kernel_rfl) (by kernel_rfl) (by kernel_rfl) (fun _ _ _ h => h) (by rfl) (v := ?_) (fun w hSw => ?_) (by assumption) ?_; rotate_left; (focus ((try dsimp only at hSw); go_simp; first | done | exact rfl)); simp only [List.set]
          refine step_read 2 51 rfl rfl (by kernel_rfl) (by kernel_rfl) (by kernel_rfl) (fun _ _ _ h => h) (by rfl) (v := ?_) (fun w hSw => ?_) (by assumption) ?_; rotate_left; (focus ((try dsimp only at hSw); go_simp; first | done | exact rfl)); simp only [List.set]
          refine step_read 3 52 rfl rfl (by kernel_rfl) (by kernel_rfl) (by kernel_rfl) (fun _ _ _ h => h) (by rfl) (v := ?_) (fun w hSw => ?_) (by assumption) ?_; rotate_left; (focus ((try dsimp only at hSw); go_simp; first | done | exact rfl)); simp only [List.set]
          refine step_read 4 53 rfl rfl (by kernel_rfl) (by kernel_rfl) (by kernel_rfl) (fun _ _ _ h => h) (by rfl) (v := ?_) (fun w hSw => ?_) (by assumption) ?_; rotate_left; (focus ((try dsimp only at hSw); go_simp; first | done | exact rfl)); simp only [List.set]
          refine step_read 5 54 rfl rfl (by kernel_rfl) (by kernel_rfl) (by kernel_rfl) (fun _ _ _ h => h) (by rfl) (v := ?_) (fun w hSw => ?_) (by assumption) ?_; rotate_left; (focus ((try dsimp only at hSw); go_simp; first | done | exact rfl)); simp only [List.set]
          refine step_read 6 55 rfl rfl (by kernel_rfl) (by kernel_rfl) (by kernel_rfl) (fun _ _ _ h => h) (by rfl) (v := ?_) (fun w hSw => ?_) (by assumption) ?_; rotate_left; (focus ((try dsimp only at hSw); go_simp; first | done | exact rfl)); simp only [List.set]
          refine step_read 7 56 rfl rfl (by kernel_rfl) (by kernel_rfl) (by kernel_rfl) (fun _ _ _ h => h) (by rfl) (v := ?_) (fun w hSw => ?_) (by assumption) ?_; rotate_left; (focus ((try dsimp only at hSw); go_simp; first | done | exact rfl)); simp only [List.set]
          refine wpAnyH_ready (rs := [8]) (by kernel_rfl) (by simp) ?_
          refine AllReadyH.cons rfl (fun Kc hK => ?_) (AllReadyH.nil)
          go_simp
          go_at_call 38
          have hh := hHeld.2.2.2
          refine (same_row HM.out.symm (by omega) (H2.out.below hh.out HS2) (H1.out.below hh.out HS1)).mono ?_
          rintro e wq ⟨rfl, hbq⟩
          have c1 := cell_kept hbq hHeld.1
          have c2 := cell_kept hbq hHeld.2.1
          have c3 := cell_kept hbq hHeld.2.2.1
          have c4 : Hid (Below wh.heap.size wh wq) := hh.out.trans (hbq.mono hh.out.size)
          clear hHeld hh hbq
          refine hK.out _ _ ?_ (fun hHeld => ?_)
          · exact ⟨c1, c2, c3, c4⟩
          clear hK Kc
          refine step_read 9 58 rfl rfl (by kernel_rfl) (by kernel_rfl) (by kernel_rfl) (fun _ _ _ h => h) (by rfl) (v := ?_) (fun w hSw => ?_) (by assumption) ?_; rotate_left; (focus ((try dsimp only at hSw); go_simp; first | done | exact rfl)); simp only [List.set]
          refine step_read 10 59 rfl rfl (by kernel_rfl) (by kernel_rfl) (by kernel_rfl) (fun _ _ _ h => h) (by rfl) (v := ?_) (fun w hSw => ?_) (by assumption) ?_; rotate_left; (focus ((try dsimp only at hSw); go_simp; first | done | exact rfl)); simp only [List.set]
          refine step_read 11 60 rfl rfl (by kernel_rfl) (by kernel_rfl) (by kernel_rfl) (fun _ _ _ h => h) (by rfl) (v := ?_) (fun w hSw => ?_) (by assumption) ?_; rotate_left; (focus ((try dsimp only at hSw); go_simp; first | done | exact rfl)); simp only [List.set]
          refine step_read 12 61 rfl rfl (by kernel_rfl) (by kernel_rfl) (by kernel_rfl) (fun _ _ _ h => h) (by rfl) (v := ?_) (fun w hSw => ?_) (by assumption) ?_; rotate_left; (focus ((try dsimp only at hSw); go_simp; first | done | exact rfl)); simp only [List.set]
          refine step_read 13 62 rfl rfl (by kernel_rfl) (by kernel_rfl) (by kernel_rfl) (fun _ _ _ h => h) (by rfl) (v := ?_) (fun w hSw => ?_) (by assumption) ?_; rotate_left; (focus ((try dsimp only at hSw); go_simp; first | done | exact rfl)); simp only [List.set]
          refine step_read 14 63 rfl rfl (by kernel_rfl) (by kernel_rfl) (by kernel_rfl) (fun _ _ _ h => h) (by rfl) (v := ?_) (fun w hSw => ?_) (by assumption) ?_; rotate_left; (focus ((try dsimp only at hSw); go_simp; first | done | exact rfl)); simp only [List.set]
          refine step_read 15 64 rfl rfl (by kernel_rfl) (by kernel_rfl) (by kernel_rfl) (fun _ _ _ h => h) (by rfl) (v := ?_) (fun w hSw => ?_) (by assumption) ?_; rotate_left; (focus ((try dsimp only at hSw); go_simp; first | done | exact rfl)); simp only [List.set]
          refine wpAnyH_ready (rs := [16]) (by kernel_rfl) (by simp) ?_
          refine AllReadyH.cons rfl (fun Kc hK => ?_) (AllReadyH.nil)
          go_simp
          go_at_call 38
          have hh := hHeld.2.2.2
          refine (same_row HM.out.symm (by omega) (HH.out.below hh.out (Nat.le_refl _)) (H1.out.below hh.out HS1)).mono ?_
          rintro e wq ⟨rfl, hbq⟩
          have c1 := cell_kept hbq hHeld.1
          have c2 := cell_kept hbq hHeld.2.1
          have c3 := cell_kept hbq hHeld.2.2.1
          have c4 : Hid (Below wh.heap.size wh wq) := hh.out.trans (hbq.mono hh.out.size)
          clear hHeld hh hbq
          refine hK.out _ _ ?_ (fun hHeld => ?_)
          · exact ⟨c1, c2, c3, c4⟩
          clear hK Kc
          refine step_read 17 66 rfl rfl (by kernel_rfl) (by kernel_rfl) (by kernel_rfl) (fun _ _ _ h => h) (by rfl) (v := ?_) (fun w hSw => ?_) (by assumption) ?_; rotate_left; (focus ((try dsimp only at hSw); go_simp; first | done | exact rfl)); simp only [List.set]
          refine step_read 18 67 rfl rfl (by kernel_rfl) (by kernel_rfl) (by kernel_rfl) (fun _ _ _ h => h) (by rfl) (v := ?_) (fun w hSw => ?_) (by assumption) ?_; rotate_left; (focus ((try dsimp only at hSw); go_simp; first | done | exact rfl)); simp only [List.set]
          refine step_read 19 68 rfl rfl (by kernel_rfl) (by kernel_rfl) (by kernel_rfl) (fun _ _ _ h => h) (by rfl) (v := ?_) (fun w hSw => ?_) (by assumption) ?_; rotate_left; (focus ((try dsimp only at hSw); go_simp; first | done | exact rfl)); simp only [List.set]
          refine step_read 20 69 rfl rfl (by kernel_rfl) (by kernel_rfl) (by kernel_rfl) (fun _ _ _ h => h) (by rfl) (v := ?_) (fun w hSw => ?_) (by assumption) ?_; rotate_left; (focus ((try dsimp only at hSw); go_simp; first | done | exact rfl)); simp only [List.set]
          refine step_read 21 70 rfl rfl (by kernel_rfl) (by kernel_rfl) (by kernel_rfl) (fun _ _ _ h => h) (by rfl) (v := ?_) (fun w hSw => ?_) (by assumption) ?_; rotate_left; (focus ((try dsimp only at hSw); go_simp; first | done | exact rfl)); simp only [List.set]
          refine step_read 22 71 rfl rfl (by kernel_rfl) (by kernel_rfl) (by kernel_rfl) (fun _ _ _ h => h) (by rfl) (v := ?_) (fun w hSw => ?_) (by assumption) ?_; rotate_left; (focus ((try dsimp only at hSw); go_simp; first | done | exact rfl)); simp only [List.set]
          refine step_read 23 72 rfl rfl (by kernel_rfl) (by kernel_rfl) (by kernel_rfl) (fun _ _ _ h => h) (by rfl) (v := ?_) (fun w hSw => ?_) (by assumption) ?_; rotate_left; (focus ((try dsimp only at hSw); go_simp; first | done | exact rfl)); simp only [List.set]
          refine step_read 24 73 rfl rfl (by kernel_rfl) (by kernel_rfl) (by kernel_rfl) (fun _ _ _ h => h) (by rfl) (v := ?_) (fun w hSw => ?_) (by assumption) ?_; rotate_left; (focus ((try dsimp only at hSw); go_simp; first | done | exact rfl)); simp only [List.set]
          refine step_read 25 74 rfl rfl (by kernel_rfl) (by kernel_rfl) (by kernel_rfl) (fun _ _ _ h => h) (by rfl) (v := ?_) (fun w hSw => ?_) (by assumption) ?_; rotate_left; (focus ((try dsimp only at hSw); go_simp; first | done | exact rfl)); simp only [List.set]
          refine step_read 26 75 rfl rfl (by kernel_rfl) (by kernel_rfl) (by kernel_rfl) (fun _ _ _ h => h) (by rfl) (v := ?_) (fun w hSw => ?_) (by assumption) ?_; rotate_left; (focus ((try dsimp only at hSw); go_simp; first | done | exact rfl)); simp only [List.set]
          refine step_skip 27 76 rfl rfl (by kernel_rfl) (by kernel_rfl) (by kernel_rfl) (fun _ _ _ h => h) (by rfl) (by assumption) ?_; simp only [List.set]
          refine step_skip 28 77 rfl rfl (by kernel_rfl) (by kernel_rfl) (by kernel_rfl) (fun _ _ _ h => h) (by rfl) (by assumption) ?_; simp only [List.set]
          refine step_skip 29 78 rfl rfl (by kernel_rfl) (by kernel_rfl) (by kernel_rfl) (fun _ _ _ h => h) (by rfl) (by assumption) ?_; simp only [List.set]
          refine step_skip 30 79 rfl rfl (by kernel_rfl) (by kernel_rfl) (by kernel_rfl) (fun _ _ _ h => h) (by rfl) (by assumption) ?_; simp only [List.set]
          refine step_skip 31 80 rfl rfl (by kernel_rfl) (by kernel_rfl) (by kernel_rfl) (fun _ _ _ h => h) (by rfl) (by assumption) ?_; simp only [List.set]
          refine step_read 32 81 rfl rfl (by kernel_rfl) (by kernel_rfl) (by kernel_rfl) (fun _ _ _ h => h) (by rfl) (v := ?_) (fun w hSw => ?_) (by assumption) ?_; rotate_left; (focus ((try dsimp only at hSw); go_simp; first | done | exact rfl)); simp only [List.set]
          refine step_read 33 82 rfl rfl (by kernel_rfl) (by kernel_rfl) (by kernel_rfl) (fun _ _ _ h => h) (by rfl) (v := ?_) (fun w hSw => ?_) (by assumption) ?_; rotate_left; (focus ((try dsimp only at hSw); go_simp; first | done | exact rfl)); simp only [List.set]
          refine step_read 34 83 rfl rfl (by kernel_rfl) (by kernel_rfl) (by kernel_rfl) (fun _ _ _ h => h) (by rfl) (v := ?_) (fun w hSw => ?_) (by assumption) ?_; rotate_left; (focus ((try dsimp only at hSw); go_simp; first | done | exact rfl)); simp only [List.set]
          refine wpAnyH_done (by kernel_rfl) ?_ _
          have HE := hHeld.2.2.2
          clear hHeld c1 c2 c3 c4
          clear r1 r2 r3 H1 H2 x0 x1
          go_wp2_with fail
          go_loopw [11] (fun i wr => i = .int .i64 0 ∧ Hid (Below wh.heap.size wh wr)) (fun _ _ => 0)
          case atStart => exact ⟨rfl, HE⟩
          case round =>
            clear HE
            obtain ⟨rfl, hQ⟩ := hrel
            have t4 := cell_kept hQ.out r4
            go_wp2_with fail
            refine wp_region_held_drew (S := (fun w' => w'.cell? ⟨T, k, none⟩ = some (.int .i64 (-1)) ∧ Hid (Below wh.heap.size wh w'))) (by kernel_rfl) ?_ (fun hHeld => ?_)
            · exact ⟨t4, Lib.hid hQ.out.drew⟩
            refine step_read 0 112 rfl rfl (by kernel_rfl) (by kernel_rfl) (by kernel_rfl) (fun _ _ _ h => h) (by rfl) (v := ?_) (fun w hSw => ?_) (by assumption) ?_; rotate_left; (focus ((try dsimp only at hSw); go_simp; first | done | exact rfl)); simp only [List.set]
            refine step_read 1 113 rfl rfl (by kernel_rfl) (by kernel_rfl) (by kernel_rfl) (fun _ _ _ h => h) (by rfl) (v := ?_) (fun w hSw => ?_) (by assumption) ?_; rotate_left; (focus ((try dsimp only at hSw); go_simp; first | done | exact rfl)); simp only [List.set]
            refine step_read 2 114 rfl rfl (by kernel_rfl) (by kernel_rfl) (by kernel_rfl) (fun _ _ _ h => h) (by rfl) (v := ?_) (fun w hSw => ?_) (by assumption) ?_; rotate_left; (focus ((try dsimp only at hSw); go_simp; first | done | exact rfl)); simp only [List.set]
            refine step_read 3 115 rfl rfl (by kernel_rfl) (by kernel_rfl) (by kernel_rfl) (fun _ _ _ h => h) (by rfl) (v := ?_) (fun w hSw => ?_) (by assumption) ?_; rotate_left; (focus ((try dsimp only at hSw); go_simp; first | done | exact rfl)); simp only [List.set]
            refine step_read 4 116 rfl rfl (by kernel_rfl) (by kernel_rfl) (by kernel_rfl) (fun _ _ _ h => h) (by rfl) (v := ?_) (fun w hSw => ?_) (by assumption) ?_; rotate_left; (focus ((try dsimp only at hSw); go_simp; first | done | exact rfl)); simp only [List.set]
            refine step_read 5 117 rfl rfl (by kernel_rfl) (by kernel_rfl) (by kernel_rfl) (fun _ _ _ h => h) (by rfl) (v := ?_) (fun w hSw => ?_) (by assumption) ?_; rotate_left; (focus ((try dsimp only at hSw); go_simp; first | done | exact rfl)); simp only [List.set]
            refine step_read 6 118 rfl rfl (by kernel_rfl) (by kernel_rfl) (by kernel_rfl) (fun _ _ _ h => h) (by rfl) (v := ?_) (fun w hSw => ?_) (by assumption) ?_; rotate_left; (focus ((try dsimp only at hSw); go_simp; first | done | exact rfl)); simp only [List.set]
            refine step_read 7 119 rfl rfl (by kernel_rfl) (by kernel_rfl) (by kernel_rfl) (fun _ _ _ h => h) (by rfl) (v := ?_) (fun w hSw => ?_) (by assumption) ?_; rotate_left; (focus ((try dsimp only at hSw); go_simp; first | done | exact rfl)); simp only [List.set]
            refine step_read 8 120 rfl rfl (by kernel_rfl) (by kernel_rfl) (by kernel_rfl) (fun _ _ _ h => h) (by rfl) (v := ?_) (fun w hSw => ?_) (by assumption) ?_; rotate_left; (focus ((try dsimp only at hSw); go_simp; first | done | exact rfl)); simp only [List.set]
            refine step_read 9 121 rfl rfl (by kernel_rfl) (by kernel_rfl) (by kernel_rfl) (fun _ _ _ h => h) (by rfl) (v := ?_) (fun w hSw => ?_) (by assumption) ?_; rotate_left; (focus ((try dsimp only at hSw); go_simp; first | done | exact rfl)); simp only [List.set]
            refine step_read 10 122 rfl rfl (by kernel_rfl) (by kernel_rfl) (by kernel_rfl) (fun _ _ _ h => h) (by rfl) (v := ?_) (fun w hSw => ?_) (by assumption) ?_; rotate_left; (focus ((try dsimp only at hSw); go_simp; first | done | exact rfl)); simp only [List.set]
            refine step_read 11 123 rfl rfl (by kernel_rfl) (by kernel_rfl) (by kernel_rfl) (fun _ _ _ h => h) (by rfl) (v := ?_) (fun w hSw => ?_) (by assumption) ?_; rotate_left; (focus ((try dsimp only at hSw); go_simp; first | done | exact rfl)); simp only [List.set]
            refine step_read 12 124 rfl rfl (by kernel_rfl) (by kernel_rfl) (by kernel_rfl) (fun _ _ _ h => h) (by rfl) (v := ?_) (fun w hSw => ?_) (by assumption) ?_; rotate_left; (focus ((try dsimp only at hSw); go_simp; first | done | exact rfl)); simp only [List.set]
            refine step_read 13 125 rfl rfl (by kernel_rfl) (by kernel_rfl) (by kernel_rfl) (fun _ _ _ h => h) (by rfl) (v := ?_) (fun w hSw => ?_) (by assumption) ?_; rotate_left; (focus ((try dsimp only at hSw); go_simp; first | done | exact rfl)); simp only [List.set]
            refine step_read 14 126 rfl rfl (by kernel_rfl) (by kernel_rfl) (by kernel_rfl) (fun _ _ _ h => h) (by rfl) (v := ?_) (fun w hSw => ?_) (by assumption) ?_; rotate_left; (focus ((try dsimp only at hSw); go_simp; first | done | exact rfl)); simp only [List.set]
            refine step_read 15 127 rfl rfl (by kernel_rfl) (by kernel_rfl) (by kernel_rfl) (fun _ _ _ h => h) (by rfl) (v := ?_) (fun w hSw => ?_) (by assumption) ?_; rotate_left; (focus ((try dsimp only at hSw); go_simp; first | done | exact rfl)); simp only [List.set]
            refine step_skip 16 128 rfl rfl (by kernel_rfl) (by kernel_rfl) (by kernel_rfl) (fun _ _ _ h => h) (by rfl) (by assumption) ?_; simp only [List.set]
            refine step_skip 17 129 rfl rfl (by kernel_rfl) (by kernel_rfl) (by kernel_rfl) (fun _ _ _ h => h) (by rfl) (by assumption) ?_; simp only [List.set]
            refine step_skip 18 130 rfl rfl (by kernel_rfl) (by kernel_rfl) (by kernel_rfl) (fun _ _ _ h => h) (by rfl) (by assumption) ?_; simp only [List.set]
            refine step_skip 19 131 rfl rfl (by kernel_rfl) (by kernel_rfl) (by kernel_rfl) (fun _ _ _ h => h) (by rfl) (by assumption) ?_; simp only [List.set]
            refine step_skip 20 132 rfl rfl (by kernel_rfl) (by kernel_rfl) (by kernel_rfl) (fun _ _ _ h => h) (by rfl) (by assumption) ?_; simp only [List.set]
            refine step_skip 21 133 rfl rfl (by kernel_rfl) (by kernel_rfl) (by kernel_rfl) (fun _ _ _ h => h) (by rfl) (by assumption) ?_; simp only [List.set]
            refine step_skip 22 134 rfl rfl (by kernel_rfl) (by kernel_rfl) (by kernel_rfl) (fun _ _ _ h => h) (by rfl) (by assumption) ?_; simp only [List.set]
            refine step_skip 23 135 rfl rfl (by kernel_rfl) (by kernel_rfl) (by kernel_rfl) (fun _ _ _ h => h) (by rfl) (by assumption) ?_; simp only [List.set]
            refine step_skip 24 136 rfl rfl (by kernel_rfl) (by kernel_rfl) (by kernel_rfl) (fun _ _ _ h => h) (by rfl) (by assumption) ?_; simp only [List.set]
            refine step_skip 25 137 rfl rfl (by kernel_rfl) (by kernel_rfl) (by kernel_rfl) (fun _ _ _ h => h) (by rfl) (by assumption) ?_; simp only [List.set]
            refine step_read 26 138 rfl rfl (by kernel_rfl) (by kernel_rfl) (by kernel_rfl) (fun _ _ _ h => h) (by rfl) (v := ?_) (fun w hSw => ?_) (by assumption) ?_; rotate_left; (focus ((try dsimp only at hSw); go_simp; first | done | exact rfl)); simp only [List.set]
            refine step_read 27 139 rfl rfl (by kernel_rfl) (by kernel_rfl) (by kernel_rfl) (fun _ _ _ h => h) (by rfl) (v := ?_) (fun w hSw => ?_) (by assumption) ?_; rotate_left; (focus ((try dsimp only at hSw); go_simp; first | done | exact rfl)); simp only [List.set]
            refine wpAnyH_done (by kernel_rfl) ?_ _
            have HV := hHeld.2
            clear hHeld
            go_wp2_with fail
            go_roundw
            case rel => exact ⟨k + 1, by omega, by go_num, Lib.hid (HBh.out.trans (HV.out.mono HBh.out.size))⟩
            case measure => simp [intOf]; omega
        · have n1 : ((k : Int) != (s : Int)) = true := by simp [bne, beq_eq_false_iff_ne.2 hks]
          have n2 : decide (dd < 1000000) = false := decide_eq_false (fun h => by have := hif.2 ⟨hks, h⟩; omega)
          have n3 : ¬ dd < 1000000 := of_decide_eq_false n2
          subst hm0
          clear hif hdb hlen hZ0 hf1 hks
          refine wp_region_held_drew (S := (fun w' => w'.cell? ⟨G2, k, none⟩ = some v2 ∧ w'.cell? ⟨G1, k, none⟩ = some v1 ∧ w'.cell? ⟨D, k, none⟩ = some (.int .i64 dd) ∧ Hid (Below wh.heap.size wh w'))) (by kernel_rfl) ?_ (fun hHeld => ?_)
          · exact ⟨r2, r1, r3, Lib.hid (Below.refl _ _).drew⟩
          refine step_read 0 49 rfl rfl (by kernel_rfl) (by kernel_rfl) (by kernel_rfl) (fun _ _ _ h => h) (by rfl) (v := ?_) (fun w hSw => ?_) (by assumption) ?_; rotate_left; (focus ((try dsimp only at hSw); go_simp; first | done | exact rfl)); simp only [List.set]
          refine step_read 1 50 rfl rfl (by kernel_rfl) (by kernel_rfl) (by kernel_rfl) (fun _ _ _ h => h) (by rfl) (v := ?_) (fun w hSw => ?_) (by assumption) ?_; rotate_left; (focus ((try dsimp only at hSw); go_simp; first | done | exact rfl)); simp only [List.set]
          refine step_read 2 51 rfl rfl (by kernel_rfl) (by kernel_rfl) (by kernel_rfl) (fun _ _ _ h => h) (by rfl) (v := ?_) (fun w hSw => ?_) (by assumption) ?_; rotate_left; (focus ((try dsimp only at hSw); go_simp; first | done | exact rfl)); simp only [List.set]
          refine step_read 3 52 rfl rfl (by kernel_rfl) (by kernel_rfl) (by kernel_rfl) (fun _ _ _ h => h) (by rfl) (v := ?_) (fun w hSw => ?_) (by assumption) ?_; rotate_left; (focus ((try dsimp only at hSw); go_simp; first | done | exact rfl)); simp only [List.set]
          refine step_read 4 53 rfl rfl (by kernel_rfl) (by kernel_rfl) (by kernel_rfl) (fun _ _ _ h => h) (by rfl) (v := ?_) (fun w hSw => ?_) (by assumption) ?_; rotate_left; (focus ((try dsimp only at hSw); go_simp; first | done | exact rfl)); simp only [List.set]
          refine step_read 5 54 rfl rfl (by kernel_rfl) (by kernel_rfl) (by kernel_rfl) (fun _ _ _ h => h) (by rfl) (v := ?_) (fun w hSw => ?_) (by assumption) ?_; rotate_left; (focus ((try dsimp only at hSw); go_simp; first | done | exact rfl)); simp only [List.set]
          refine step_read 6 55 rfl rfl (by kernel_rfl) (by kernel_rfl) (by kernel_rfl) (fun _ _ _ h => h) (by rfl) (v := ?_) (fun w hSw => ?_) (by assumption) ?_; rotate_left; (focus ((try dsimp only at hSw); go_simp; first | done | exact rfl)); simp only [List.set]
          refine step_read 7 56 rfl rfl (by kernel_rfl) (by kernel_rfl) (by kernel_rfl) (fun _ _ _ h => h) (by rfl) (v := ?_) (fun w hSw => ?_) (by assumption) ?_; rotate_left; (focus ((try dsimp only at hSw); go_simp; first | done | exact rfl)); simp only [List.set]
          refine wpAnyH_ready (rs := [8]) (by kernel_rfl) (by simp) ?_
          refine AllReadyH.cons rfl (fun Kc hK => ?_) (AllReadyH.nil)
          go_simp
          go_at_call 38
          have hh := hHeld.2.2.2
          refine (same_row HM.out.symm (by omega) (H2.out.below hh.out HS2) (H1.out.below hh.out HS1)).mono ?_
          rintro e wq ⟨rfl, hbq⟩
          have c1 := cell_kept hbq hHeld.1
          have c2 := cell_kept hbq hHeld.2.1
          have c3 := cell_kept hbq hHeld.2.2.1
          have c4 : Hid (Below wh.heap.size wh wq) := hh.out.trans (hbq.mono hh.out.size)
          clear hHeld hh hbq
          refine hK.out _ _ ?_ (fun hHeld => ?_)
          · exact ⟨c1, c2, c3, c4⟩
          clear hK Kc
          refine step_read 9 58 rfl rfl (by kernel_rfl) (by kernel_rfl) (by kernel_rfl) (fun _ _ _ h => h) (by rfl) (v := ?_) (fun w hSw => ?_) (by assumption) ?_; rotate_left; (focus ((try dsimp only at hSw); go_simp; first | done | exact rfl)); simp only [List.set]
          refine step_read 10 59 rfl rfl (by kernel_rfl) (by kernel_rfl) (by kernel_rfl) (fun _ _ _ h => h) (by rfl) (v := ?_) (fun w hSw => ?_) (by assumption) ?_; rotate_left; (focus ((try dsimp only at hSw); go_simp; first | done | exact rfl)); simp only [List.set]
          refine step_read 11 60 rfl rfl (by kernel_rfl) (by kernel_rfl) (by kernel_rfl) (fun _ _ _ h => h) (by rfl) (v := ?_) (fun w hSw => ?_) (by assumption) ?_; rotate_left; (focus ((try dsimp only at hSw); go_simp; first | done | exact rfl)); simp only [List.set]
          refine step_read 12 61 rfl rfl (by kernel_rfl) (by kernel_rfl) (by kernel_rfl) (fun _ _ _ h => h) (by rfl) (v := ?_) (fun w hSw => ?_) (by assumption) ?_; rotate_left; (focus ((try dsimp only at hSw); go_simp; first | done | exact rfl)); simp only [List.set]
          refine step_read 13 62 rfl rfl (by kernel_rfl) (by kernel_rfl) (by kernel_rfl) (fun _ _ _ h => h) (by rfl) (v := ?_) (fun w hSw => ?_) (by assumption) ?_; rotate_left; (focus ((try dsimp only at hSw); go_simp; first | done | exact rfl)); simp only [List.set]
          refine step_read 14 63 rfl rfl (by kernel_rfl) (by kernel_rfl) (by kernel_rfl) (fun _ _ _ h => h) (by rfl) (v := ?_) (fun w hSw => ?_) (by assumption) ?_; rotate_left; (focus ((try dsimp only at hSw); go_simp; first | done | exact rfl)); simp only [List.set]
          refine step_read 15 64 rfl rfl (by kernel_rfl) (by kernel_rfl) (by kernel_rfl) (fun _ _ _ h => h) (by rfl) (v := ?_) (fun w hSw => ?_) (by assumption) ?_; rotate_left; (focus ((try dsimp only at hSw); go_simp; first | done | exact rfl)); simp only [List.set]
          refine wpAnyH_ready (rs := [16]) (by kernel_rfl) (by simp) ?_
          refine AllReadyH.cons rfl (fun Kc hK => ?_) (AllReadyH.nil)
          go_simp
          go_at_call 38
          have hh := hHeld.2.2.2
          refine (same_row HM.out.symm (by omega) (HH.out.below hh.out (Nat.le_refl _)) (H1.out.below hh.out HS1)).mono ?_
          rintro e wq ⟨rfl, hbq⟩
          have c1 := cell_kept hbq hHeld.1
          have c2 := cell_kept hbq hHeld.2.1
          have c3 := cell_kept hbq hHeld.2.2.1
          have c4 : Hid (Below wh.heap.size wh wq) := hh.out.trans (hbq.mono hh.out.size)
          clear hHeld hh hbq
          refine hK.out _ _ ?_ (fun hHeld => ?_)
          · exact ⟨c1, c2, c3, c4⟩
          clear hK Kc
          refine step_read 17 66 rfl rfl (by kernel_rfl) (by kernel_rfl) (by kernel_rfl) (fun _ _ _ h => h) (by rfl) (v := ?_) (fun w hSw => ?_) (by assumption) ?_; rotate_left; (focus ((try dsimp only at hSw); go_simp; first | done | exact rfl)); simp only [List.set]
          refine step_read 18 67 rfl rfl (by kernel_rfl) (by kernel_rfl) (by kernel_rfl) (fun _ _ _ h => h) (by rfl) (v := ?_) (fun w hSw => ?_) (by assumption) ?_; rotate_left; (focus ((try dsimp only at hSw); go_simp; first | done | exact rfl)); simp only [List.set]
          refine step_read 19 68 rfl rfl (by kernel_rfl) (by kernel_rfl) (by kernel_rfl) (fun _ _ _ h => h) (by rfl) (v := ?_) (fun w hSw => ?_) (by assumption) ?_; rotate_left; (focus ((try dsimp only at hSw); go_simp; first | done | exact rfl)); simp only [List.set]
          refine step_read 20 69 rfl rfl (by kernel_rfl) (by kernel_rfl) (by kernel_rfl) (fun _ _ _ h => h) (by rfl) (v := ?_) (fun w hSw => ?_) (by assumption) ?_; rotate_left; (focus ((try dsimp only at hSw); go_simp; first | done | exact rfl)); simp only [List.set]
          refine step_read 21 70 rfl rfl (by kernel_rfl) (by kernel_rfl) (by kernel_rfl) (fun _ _ _ h => h) (by rfl) (v := ?_) (fun w hSw => ?_) (by assumption) ?_; rotate_left; (focus ((try dsimp only at hSw); go_simp; first | done | exact rfl)); simp only [List.set]
          refine step_read 22 71 rfl rfl (by kernel_rfl) (by kernel_rfl) (by kernel_rfl) (fun _ _ _ h => h) (by rfl) (v := ?_) (fun w hSw => ?_) (by assumption) ?_; rotate_left; (focus ((try dsimp only at hSw); go_simp; first | done | exact rfl)); simp only [List.set]
          refine step_read 23 72 rfl rfl (by kernel_rfl) (by kernel_rfl) (by kernel_rfl) (fun _ _ _ h => h) (by rfl) (v := ?_) (fun w hSw => ?_) (by assumption) ?_; rotate_left; (focus ((try dsimp only at hSw); go_simp; first | done | exact rfl)); simp only [List.set]
          refine step_read 24 73 rfl rfl (by kernel_rfl) (by kernel_rfl) (by kernel_rfl) (fun _ _ _ h => h) (by rfl) (v := ?_) (fun w hSw => ?_) (by assumption) ?_; rotate_left; (focus ((try dsimp only at hSw); go_simp; first | done | exact rfl)); simp only [List.set]
          refine step_read 25 74 rfl rfl (by kernel_rfl) (by kernel_rfl) (by kernel_rfl) (fun _ _ _ h => h) (by rfl) (v := ?_) (fun w hSw => ?_) (by assumption) ?_; rotate_left; (focus ((try dsimp only at hSw); go_simp; first | done | exact rfl)); simp only [List.set]
          refine step_read 26 75 rfl rfl (by kernel_rfl) (by kernel_rfl) (by kernel_rfl) (fun _ _ _ h => h) (by rfl) (v := ?_) (fun w hSw => ?_) (by assumption) ?_; rotate_left; (focus ((try dsimp only at hSw); go_simp; first | done | exact rfl)); simp only [List.set]
          refine step_read 27 76 rfl rfl (by kernel_rfl) (by kernel_rfl) (by kernel_rfl) (fun _ _ _ h => h) (by rfl) (v := ?_) (fun w hSw => ?_) (by assumption) ?_; rotate_left; (focus ((try dsimp only at hSw); go_simp; first | done | exact rfl)); simp only [List.set]
          refine step_read 28 77 rfl rfl (by kernel_rfl) (by kernel_rfl) (by kernel_rfl) (fun _ _ _ h => h) (by rfl) (v := ?_) (fun w hSw => ?_) (by assumption) ?_; rotate_left; (focus ((try dsimp only at hSw); go_simp; first | done | exact rfl)); simp only [List.set]
          refine step_read 29 78 rfl rfl (by kernel_rfl) (by kernel_rfl) (by kernel_rfl) (fun _ _ _ h => h) (by rfl) (v := ?_) (fun w hSw => ?_) (by assumption) ?_; rotate_left; (focus ((try dsimp only at hSw); go_simp; first | done | exact rfl)); simp only [List.set]
          refine step_read 30 79 rfl rfl (by kernel_rfl) (by kernel_rfl) (by kernel_rfl) (fun _ _ _ h => h) (by rfl) (v := ?_) (fun w hSw => ?_) (by assumption) ?_; rotate_left; (focus ((try dsimp only at hSw); go_simp; first | done | exact rfl)); simp only [List.set]
          refine step_read 31 80 rfl rfl (by kernel_rfl) (by kernel_rfl) (by kernel_rfl) (fun _ _ _ h => h) (by rfl) (v := ?_) (fun w hSw => ?_) (by assumption) ?_; rotate_left; (focus ((try dsimp only at hSw); go_simp; first | done | exact rfl)); simp only [List.set]
          refine step_read 32 81 rfl rfl (by kernel_rfl) (by kernel_rfl) (by kernel_rfl) (fun _ _ _ h => h) (by rfl) (v := ?_) (fun w hSw => ?_) (by assumption) ?_; rotate_left; (focus ((try dsimp only at hSw); go_simp; first | done | exact rfl)); simp only [List.set]
          refine step_read 33 82 rfl rfl (by kernel_rfl) (by kernel_rfl) (by kernel_rfl) (fun _ _ _ h => h) (by rfl) (v := ?_) (fun w hSw => ?_) (by assumption) ?_; rotate_left; (focus ((try dsimp only at hSw); go_simp; first | done | exact rfl)); simp only [List.set]
          refine step_read 34 83 rfl rfl (by kernel_rfl) (by kernel_rfl) (by kernel_rfl) (fun _ _ _ h => h) (by rfl) (v := ?_) (fun w hSw => ?_) (by assumption) ?_; rotate_left; (focus ((try dsimp only at hSw); go_simp; first | done | exact rfl)); simp only [List.set]
          refine wpAnyH_done (by kernel_rfl) ?_ _
          have HE := hHeld.2.2.2
          clear hHeld c1 c2 c3 c4
          clear r1 r2 r3 H1 H2 x0 x1
          go_wp2_with fail
          go_loopw [11] (fun i wr => i = .int .i64 0 ∧ Hid (Below wh.heap.size wh wr)) (fun _ _ => 0)
          case atStart => exact ⟨rfl, HE⟩
          case round =>
            clear HE
            obtain ⟨rfl, hQ⟩ := hrel
            have t4 := cell_kept hQ.out r4
            go_wp2_with fail
            refine wp_region_held_drew (S := (fun w' => w'.cell? ⟨T, k, none⟩ = some (.int .i64 (-1)) ∧ Hid (Below wh.heap.size wh w'))) (by kernel_rfl) ?_ (fun hHeld => ?_)
            · exact ⟨t4, Lib.hid hQ.out.drew⟩
            refine step_read 0 112 rfl rfl (by kernel_rfl) (by kernel_rfl) (by kernel_rfl) (fun _ _ _ h => h) (by rfl) (v := ?_) (fun w hSw => ?_) (by assumption) ?_; rotate_left; (focus ((try dsimp only at hSw); go_simp; first | done | exact rfl)); simp only [List.set]
            refine step_read 1 113 rfl rfl (by kernel_rfl) (by kernel_rfl) (by kernel_rfl) (fun _ _ _ h => h) (by rfl) (v := ?_) (fun w hSw => ?_) (by assumption) ?_; rotate_left; (focus ((try dsimp only at hSw); go_simp; first | done | exact rfl)); simp only [List.set]
            refine step_read 2 114 rfl rfl (by kernel_rfl) (by kernel_rfl) (by kernel_rfl) (fun _ _ _ h => h) (by rfl) (v := ?_) (fun w hSw => ?_) (by assumption) ?_; rotate_left; (focus ((try dsimp only at hSw); go_simp; first | done | exact rfl)); simp only [List.set]
            refine step_read 3 115 rfl rfl (by kernel_rfl) (by kernel_rfl) (by kernel_rfl) (fun _ _ _ h => h) (by rfl) (v := ?_) (fun w hSw => ?_) (by assumption) ?_; rotate_left; (focus ((try dsimp only at hSw); go_simp; first | done | exact rfl)); simp only [List.set]
            refine step_read 4 116 rfl rfl (by kernel_rfl) (by kernel_rfl) (by kernel_rfl) (fun _ _ _ h => h) (by rfl) (v := ?_) (fun w hSw => ?_) (by assumption) ?_; rotate_left; (focus ((try dsimp only at hSw); go_simp; first | done | exact rfl)); simp only [List.set]
            refine step_read 5 117 rfl rfl (by kernel_rfl) (by kernel_rfl) (by kernel_rfl) (fun _ _ _ h => h) (by rfl) (v := ?_) (fun w hSw => ?_) (by assumption) ?_; rotate_left; (focus ((try dsimp only at hSw); go_simp; first | done | exact rfl)); simp only [List.set]
            refine step_read 6 118 rfl rfl (by kernel_rfl) (by kernel_rfl) (by kernel_rfl) (fun _ _ _ h => h) (by rfl) (v := ?_) (fun w hSw => ?_) (by assumption) ?_; rotate_left; (focus ((try dsimp only at hSw); go_simp; first | done | exact rfl)); simp only [List.set]
            refine step_read 7 119 rfl rfl (by kernel_rfl) (by kernel_rfl) (by kernel_rfl) (fun _ _ _ h => h) (by rfl) (v := ?_) (fun w hSw => ?_) (by assumption) ?_; rotate_left; (focus ((try dsimp only at hSw); go_simp; first | done | exact rfl)); simp only [List.set]
            refine step_read 8 120 rfl rfl (by kernel_rfl) (by kernel_rfl) (by kernel_rfl) (fun _ _ _ h => h) (by rfl) (v := ?_) (fun w hSw => ?_) (by assumption) ?_; rotate_left; (focus ((try dsimp only at hSw); go_simp; first | done | exact rfl)); simp only [List.set]
            refine step_read 9 121 rfl rfl (by kernel_rfl) (by kernel_rfl) (by kernel_rfl) (fun _ _ _ h => h) (by rfl) (v := ?_) (fun w hSw => ?_) (by assumption) ?_; rotate_left; (focus ((try dsimp only at hSw); go_simp; first | done | exact rfl)); simp only [List.set]
            refine step_read 10 122 rfl rfl (by kernel_rfl) (by kernel_rfl) (by kernel_rfl) (fun _ _ _ h => h) (by rfl) (v := ?_) (fun w hSw => ?_) (by assumption) ?_; rotate_left; (focus ((try dsimp only at hSw); go_simp; first | done | exact rfl)); simp only [List.set]
            refine step_read 11 123 rfl rfl (by kernel_rfl) (by kernel_rfl) (by kernel_rfl) (fun _ _ _ h => h) (by rfl) (v := ?_) (fun w hSw => ?_) (by assumption) ?_; rotate_left; (focus ((try dsimp only at hSw); go_simp; first | done | exact rfl)); simp only [List.set]
            refine step_read 12 124 rfl rfl (by kernel_rfl) (by kernel_rfl) (by kernel_rfl) (fun _ _ _ h => h) (by rfl) (v := ?_) (fun w hSw => ?_) (by assumption) ?_; rotate_left; (focus ((try dsimp only at hSw); go_simp; first | done | exact rfl)); simp only [List.set]
            refine step_read 13 125 rfl rfl (by kernel_rfl) (by kernel_rfl) (by kernel_rfl) (fun _ _ _ h => h) (by rfl) (v := ?_) (fun w hSw => ?_) (by assumption) ?_; rotate_left; (focus ((try dsimp only at hSw); go_simp; first | done | exact rfl)); simp only [List.set]
            refine step_read 14 126 rfl rfl (by kernel_rfl) (by kernel_rfl) (by kernel_rfl) (fun _ _ _ h => h) (by rfl) (v := ?_) (fun w hSw => ?_) (by assumption) ?_; rotate_left; (focus ((try dsimp only at hSw); go_simp; first | done | exact rfl)); simp only [List.set]
            refine step_read 15 127 rfl rfl (by kernel_rfl) (by kernel_rfl) (by kernel_rfl) (fun _ _ _ h => h) (by rfl) (v := ?_) (fun w hSw => ?_) (by assumption) ?_; rotate_left; (focus ((try dsimp only at hSw); go_simp; first | done | exact rfl)); simp only [List.set]
            refine step_skip 16 128 rfl rfl (by kernel_rfl) (by kernel_rfl) (by kernel_rfl) (fun _ _ _ h => h) (by rfl) (by assumption) ?_; simp only [List.set]
            refine step_skip 17 129 rfl rfl (by kernel_rfl) (by kernel_rfl) (by kernel_rfl) (fun _ _ _ h => h) (by rfl) (by assumption) ?_; simp only [List.set]
            refine step_skip 18 130 rfl rfl (by kernel_rfl) (by kernel_rfl) (by kernel_rfl) (fun _ _ _ h => h) (by rfl) (by assumption) ?_; simp only [List.set]
            refine step_skip 19 131 rfl rfl (by kernel_rfl) (by kernel_rfl) (by kernel_rfl) (fun _ _ _ h => h) (by rfl) (by assumption) ?_; simp only [List.set]
            refine step_skip 20 132 rfl rfl (by kernel_rfl) (by kernel_rfl) (by kernel_rfl) (fun _ _ _ h => h) (by rfl) (by assumption) ?_; simp only [List.set]
            refine step_skip 21 133 rfl rfl (by kernel_rfl) (by kernel_rfl) (by kernel_rfl) (fun _ _ _ h => h) (by rfl) (by assumption) ?_; simp only [List.set]
            refine step_skip 22 134 rfl rfl (by kernel_rfl) (by kernel_rfl) (by kernel_rfl) (fun _ _ _ h => h) (by rfl) (by assumption) ?_; simp only [List.set]
            refine step_skip 23 135 rfl rfl (by kernel_rfl) (by kernel_rfl) (by kernel_rfl) (fun _ _ _ h => h) (by rfl) (by assumption) ?_; simp only [List.set]
            refine step_skip 24 136 rfl rfl (by kernel_rfl) (by kernel_rfl) (by kernel_rfl) (fun _ _ _ h => h) (by rfl) (by assumption) ?_; simp only [List.set]
            refine step_skip 25 137 rfl rfl (by kernel_rfl) (by kernel_rfl) (by kernel_rfl) (fun _ _ _ h => h) (by rfl) (by assumption) ?_; simp only [List.set]
            refine step_read 26 138 rfl rfl (by kernel_rfl) (by kernel_rfl) (by kernel_rfl) (fun _ _ _ h => h) (by rfl) (v := ?_) (fun w hSw => ?_) (by assumption) ?_; rotate_left; (focus ((try dsimp only at hSw); go_simp; first | done | exact rfl)); simp only [List.set]
            refine step_read 27 139 rfl rfl (by kernel_rfl) (by kernel_rfl) (by kernel_rfl) (fun _ _ _ h => h) (by rfl) (v := ?_) (fun w hSw => ?_) (by assumption) ?_; rotate_left; (focus ((try dsimp only at hSw); go_simp; first | done | exact rfl)); simp only [List.set]
            refine wpAnyH_done (by kernel_rfl) ?_ _
            have HV := hHeld.2
            clear hHeld
            go_wp2_with fail
            go_roundw
            case rel => exact ⟨k + 1, by omega, by go_num, Lib.hid (HBh.out.trans (HV.out.mono HBh.out.size))⟩
            case measure => simp [intOf]; omega
      · have hks := (hif.1 hm0).1
        have n1 : ((k : Int) != (s : Int)) = true := by simp [bne, beq_eq_false_iff_ne.2 hks]
        have n3 := (hif.1 hm0).2
        have n2 : decide (dd < 1000000) = true := decide_eq_true n3
        have n4 : decide ((m : Int) > 0) = true := decide_eq_true (by omega)
        have n5 : (0 : Int) < (m : Int) := by omega
        rw [hfy] at r4
        have hyin := Lib.hid hyin
        clear hif hfy hks
        refine wp_region_held_drew (S := (fun w' => w'.cell? ⟨G2, k, none⟩ = some v2 ∧ w'.cell? ⟨G1, k, none⟩ = some v1 ∧ w'.cell? ⟨D, k, none⟩ = some (.int .i64 dd) ∧ Hid (Below wh.heap.size wh w'))) (by kernel_rfl) ?_ (fun hHeld => ?_)
        · exact ⟨r2, r1, r3, Lib.hid (Below.refl _ _).drew⟩
        refine step_read 0 49 rfl rfl (by kernel_rfl) (by kernel_rfl) (by kernel_rfl) (fun _ _ _ h => h) (by rfl) (v := ?_) (fun w hSw => ?_) (by assumption) ?_; rotate_left; (focus ((try dsimp only at hSw); go_simp; first | done | exact rfl)); simp only [List.set]
        refine step_read 1 50 rfl rfl (by kernel_rfl) (by kernel_rfl) (by kernel_rfl) (fun _ _ _ h => h) (by rfl) (v := ?_) (fun w hSw => ?_) (by assumption) ?_; rotate_left; (focus ((try dsimp only at hSw); go_simp; first | done | exact rfl)); simp only [List.set]
        refine step_read 2 51 rfl rfl (by kernel_rfl) (by kernel_rfl) (by kernel_rfl) (fun _ _ _ h => h) (by rfl) (v := ?_) (fun w hSw => ?_) (by assumption) ?_; rotate_left; (focus ((try dsimp only at hSw); go_simp; first | done | exact rfl)); simp only [List.set]
        refine step_read 3 52 rfl rfl (by kernel_rfl) (by kernel_rfl) (by kernel_rfl) (fun _ _ _ h => h) (by rfl) (v := ?_) (fun w hSw => ?_) (by assumption) ?_; rotate_left; (focus ((try dsimp only at hSw); go_simp; first | done | exact rfl)); simp only [List.set]
        refine step_read 4 53 rfl rfl (by kernel_rfl) (by kernel_rfl) (by kernel_rfl) (fun _ _ _ h => h) (by rfl) (v := ?_) (fun w hSw => ?_) (by assumption) ?_; rotate_left; (focus ((try dsimp only at hSw); go_simp; first | done | exact rfl)); simp only [List.set]
        refine step_read 5 54 rfl rfl (by kernel_rfl) (by kernel_rfl) (by kernel_rfl) (fun _ _ _ h => h) (by rfl) (v := ?_) (fun w hSw => ?_) (by assumption) ?_; rotate_left; (focus ((try dsimp only at hSw); go_simp; first | done | exact rfl)); simp only [List.set]
        refine step_read 6 55 rfl rfl (by kernel_rfl) (by kernel_rfl) (by kernel_rfl) (fun _ _ _ h => h) (by rfl) (v := ?_) (fun w hSw => ?_) (by assumption) ?_; rotate_left; (focus ((try dsimp only at hSw); go_simp; first | done | exact rfl)); simp only [List.set]
        refine step_read 7 56 rfl rfl (by kernel_rfl) (by kernel_rfl) (by kernel_rfl) (fun _ _ _ h => h) (by rfl) (v := ?_) (fun w hSw => ?_) (by assumption) ?_; rotate_left; (focus ((try dsimp only at hSw); go_simp; first | done | exact rfl)); simp only [List.set]
        refine wpAnyH_ready (rs := [8]) (by kernel_rfl) (by simp) ?_
        refine AllReadyH.cons rfl (fun Kc hK => ?_) (AllReadyH.nil)
        go_simp
        go_at_call 38
        have hh := hHeld.2.2.2
        refine (same_row HM.out.symm (by omega) (H2.out.below hh.out HS2) (H1.out.below hh.out HS1)).mono ?_
        rintro e wq ⟨rfl, hbq⟩
        have c1 := cell_kept hbq hHeld.1
        have c2 := cell_kept hbq hHeld.2.1
        have c3 := cell_kept hbq hHeld.2.2.1
        have c4 : Hid (Below wh.heap.size wh wq) := hh.out.trans (hbq.mono hh.out.size)
        clear hHeld hh hbq
        refine hK.out _ _ ?_ (fun hHeld => ?_)
        · exact ⟨c1, c2, c3, c4⟩
        clear hK Kc
        refine step_read 9 58 rfl rfl (by kernel_rfl) (by kernel_rfl) (by kernel_rfl) (fun _ _ _ h => h) (by rfl) (v := ?_) (fun w hSw => ?_) (by assumption) ?_; rotate_left; (focus ((try dsimp only at hSw); go_simp; first | done | exact rfl)); simp only [List.set]
        refine step_read 10 59 rfl rfl (by kernel_rfl) (by kernel_rfl) (by kernel_rfl) (fun _ _ _ h => h) (by rfl) (v := ?_) (fun w hSw => ?_) (by assumption) ?_; rotate_left; (focus ((try dsimp only at hSw); go_simp; first | done | exact rfl)); simp only [List.set]
        refine step_read 11 60 rfl rfl (by kernel_rfl) (by kernel_rfl) (by kernel_rfl) (fun _ _ _ h => h) (by rfl) (v := ?_) (fun w hSw => ?_) (by assumption) ?_; rotate_left; (focus ((try dsimp only at hSw); go_simp; first | done | exact rfl)); simp only [List.set]
        refine step_read 12 61 rfl rfl (by kernel_rfl) (by kernel_rfl) (by kernel_rfl) (fun _ _ _ h => h) (by rfl) (v := ?_) (fun w hSw => ?_) (by assumption) ?_; rotate_left; (focus ((try dsimp only at hSw); go_simp; first | done | exact rfl)); simp only [List.set]
        refine step_read 13 62 rfl rfl (by kernel_rfl) (by kernel_rfl) (by kernel_rfl) (fun _ _ _ h => h) (by rfl) (v := ?_) (fun w hSw => ?_) (by assumption) ?_; rotate_left; (focus ((try dsimp only at hSw); go_simp; first | done | exact rfl)); simp only [List.set]
        refine step_read 14 63 rfl rfl (by kernel_rfl) (by kernel_rfl) (by kernel_rfl) (fun _ _ _ h => h) (by rfl) (v := ?_) (fun w hSw => ?_) (by assumption) ?_; rotate_left; (focus ((try dsimp only at hSw); go_simp; first | done | exact rfl)); simp only [List.set]
        refine step_read 15 64 rfl rfl (by kernel_rfl) (by kernel_rfl) (by kernel_rfl) (fun _ _ _ h => h) (by rfl) (v := ?_) (fun w hSw => ?_) (by assumption) ?_; rotate_left; (focus ((try dsimp only at hSw); go_simp; first | done | exact rfl)); simp only [List.set]
        refine wpAnyH_ready (rs := [16]) (by kernel_rfl) (by simp) ?_
        refine AllReadyH.cons rfl (fun Kc hK => ?_) (AllReadyH.nil)
        go_simp
        go_at_call 38
        have hh := hHeld.2.2.2
        refine (same_row HM.out.symm (by omega) (HH.out.below hh.out (Nat.le_refl _)) (H1.out.below hh.out HS1)).mono ?_
        rintro e wq ⟨rfl, hbq⟩
        have c1 := cell_kept hbq hHeld.1
        have c2 := cell_kept hbq hHeld.2.1
        have c3 := cell_kept hbq hHeld.2.2.1
        have c4 : Hid (Below wh.heap.size wh wq) := hh.out.trans (hbq.mono hh.out.size)
        clear hHeld hh hbq
        refine hK.out _ _ ?_ (fun hHeld => ?_)
        · exact ⟨c1, c2, c3, c4⟩
        clear hK Kc
        refine step_read 17 66 rfl rfl (by kernel_rfl) (by kernel_rfl) (by kernel_rfl) (fun _ _ _ h => h) (by rfl) (v := ?_) (fun w hSw => ?_) (by assumption) ?_; rotate_left; (focus ((try dsimp only at hSw); go_simp; first | done | exact rfl)); simp only [List.set]
        refine step_read 18 67 rfl rfl (by kernel_rfl) (by kernel_rfl) (by kernel_rfl) (fun _ _ _ h => h) (by rfl) (v := ?_) (fun w hSw => ?_) (by assumption) ?_; rotate_left; (focus ((try dsimp only at hSw); go_simp; first | done | exact rfl)); simp only [List.set]
        refine step_read 19 68 rfl rfl (by kernel_rfl) (by kernel_rfl) (by kernel_rfl) (fun _ _ _ h => h) (by rfl) (v := ?_) (fun w hSw => ?_) (by assumption) ?_; rotate_left; (focus ((try dsimp only at hSw); go_simp; first | done | exact rfl)); simp only [List.set]
        refine step_read 20 69 rfl rfl (by kernel_rfl) (by kernel_rfl) (by kernel_rfl) (fun _ _ _ h => h) (by rfl) (v := ?_) (fun w hSw => ?_) (by assumption) ?_; rotate_left; (focus ((try dsimp only at hSw); go_simp; first | done | exact rfl)); simp only [List.set]
        refine step_read 21 70 rfl rfl (by kernel_rfl) (by kernel_rfl) (by kernel_rfl) (fun _ _ _ h => h) (by rfl) (v := ?_) (fun w hSw => ?_) (by assumption) ?_; rotate_left; (focus ((try dsimp only at hSw); go_simp; first | done | exact rfl)); simp only [List.set]
        refine step_read 22 71 rfl rfl (by kernel_rfl) (by kernel_rfl) (by kernel_rfl) (fun _ _ _ h => h) (by rfl) (v := ?_) (fun w hSw => ?_) (by assumption) ?_; rotate_left; (focus ((try dsimp only at hSw); go_simp; first | done | exact rfl)); simp only [List.set]
        refine step_read 23 72 rfl rfl (by kernel_rfl) (by kernel_rfl) (by kernel_rfl) (fun _ _ _ h => h) (by rfl) (v := ?_) (fun w hSw => ?_) (by assumption) ?_; rotate_left; (focus ((try dsimp only at hSw); go_simp; first | done | exact rfl)); simp only [List.set]
        refine step_read 24 73 rfl rfl (by kernel_rfl) (by kernel_rfl) (by kernel_rfl) (fun _ _ _ h => h) (by rfl) (v := ?_) (fun w hSw => ?_) (by assumption) ?_; rotate_left; (focus ((try dsimp only at hSw); go_simp; first | done | exact rfl)); simp only [List.set]
        refine step_read 25 74 rfl rfl (by kernel_rfl) (by kernel_rfl) (by kernel_rfl) (fun _ _ _ h => h) (by rfl) (v := ?_) (fun w hSw => ?_) (by assumption) ?_; rotate_left; (focus ((try dsimp only at hSw); go_simp; first | done | exact rfl)); simp only [List.set]
        refine step_read 26 75 rfl rfl (by kernel_rfl) (by kernel_rfl) (by kernel_rfl) (fun _ _ _ h => h) (by rfl) (v := ?_) (fun w hSw => ?_) (by assumption) ?_; rotate_left; (focus ((try dsimp only at hSw); go_simp; first | done | exact rfl)); simp only [List.set]
        refine step_read 27 76 rfl rfl (by kernel_rfl) (by kernel_rfl) (by kernel_rfl) (fun _ _ _ h => h) (by rfl) (v := ?_) (fun w hSw => ?_) (by assumption) ?_; rotate_left; (focus ((try dsimp only at hSw); go_simp; first | done | exact rfl)); simp only [List.set]
        refine step_read 28 77 rfl rfl (by kernel_rfl) (by kernel_rfl) (by kernel_rfl) (fun _ _ _ h => h) (by rfl) (v := ?_) (fun w hSw => ?_) (by assumption) ?_; rotate_left; (focus ((try dsimp only at hSw); go_simp; first | done | exact rfl)); simp only [List.set]
        refine step_read 29 78 rfl rfl (by kernel_rfl) (by kernel_rfl) (by kernel_rfl) (fun _ _ _ h => h) (by rfl) (v := ?_) (fun w hSw => ?_) (by assumption) ?_; rotate_left; (focus ((try dsimp only at hSw); go_simp; first | done | exact rfl)); simp only [List.set]
        refine step_read 30 79 rfl rfl (by kernel_rfl) (by kernel_rfl) (by kernel_rfl) (fun _ _ _ h => h) (by rfl) (v := ?_) (fun w hSw => ?_) (by assumption) ?_; rotate_left; (focus ((try dsimp only at hSw); go_simp; first | done | exact rfl)); simp only [List.set]
        refine step_read 31 80 rfl rfl (by kernel_rfl) (by kernel_rfl) (by kernel_rfl) (fun _ _ _ h => h) (by rfl) (v := ?_) (fun w hSw => ?_) (by assumption) ?_; rotate_left; (focus ((try dsimp only at hSw); go_simp; first | done | exact rfl)); simp only [List.set]
        refine step_read 32 81 rfl rfl (by kernel_rfl) (by kernel_rfl) (by kernel_rfl) (fun _ _ _ h => h) (by rfl) (v := ?_) (fun w hSw => ?_) (by assumption) ?_; rotate_left; (focus ((try dsimp only at hSw); go_simp; first | done | exact rfl)); simp only [List.set]
        refine step_read 33 82 rfl rfl (by kernel_rfl) (by kernel_rfl) (by kernel_rfl) (fun _ _ _ h => h) (by rfl) (v := ?_) (fun w hSw => ?_) (by assumption) ?_; rotate_left; (focus ((try dsimp only at hSw); go_simp; first | done | exact rfl)); simp only [List.set]
        refine step_read 34 83 rfl rfl (by kernel_rfl) (by kernel_rfl) (by kernel_rfl) (fun _ _ _ h => h) (by rfl) (v := ?_) (fun w hSw => ?_) (by assumption) ?_; rotate_left; (focus ((try dsimp only at hSw); go_simp; first | done | exact rfl)); simp only [List.set]
        refine wpAnyH_done (by kernel_rfl) ?_ _
        have HE := hHeld.2.2.2
        clear hHeld c1 c2 c3 c4
        clear r1 r2 H1 H2 x0 x1
        go_wp2_with fail
        obtain ⟨gh, cg, e1, _, _, hcell⟩ := row_cells hm0 HH.out
        cases e1
        have HC := Lib.hid hcell
        clear hcell
        go_loopw [11] (fun i wr => ∃ j : Nat, j ≤ m ∧ i = .int .i64 (j : Int) ∧ Hid (Below wh.heap.size wh wr)) (fun i _ => m - (intOf i).toNat)
        case atStart => exact ⟨0, Nat.zero_le _, rfl, HE⟩
        case round =>
          clear HE
          obtain ⟨j, hj, rfl, hQ⟩ := hrel
          have x0 := cell_kept hQ.out (cell_kept HBh.out HX.out.1)
          have x1 := cell_kept hQ.out (cell_kept HBh.out HX.out.2)
          by_cases hlj : j < m
          · have p0 : (j : Int) < (m : Int) := by omega
            have p1 : (0 : Int) ≤ (j : Int) := by omega
            obtain ⟨z', hz⟩ : ∃ z, Z[j]? = some z := ⟨Z[j]'(by rw [← HM.out]; exact hlj), List.getElem?_eq_getElem _⟩
            have r5 := cell_kept hQ.out (HC.out j z' hz)
            have r3 := cell_kept hQ.out r3
            obtain ⟨hzb, hzs⟩ := HSM.out z' (List.mem_of_getElem? hz)
            obtain ⟨z, rfl⟩ : ∃ q : Nat, z' = (q : Int) := ⟨z'.toNat, by omega⟩
            have hzK : z < K := by omega
            obtain ⟨cc, hcc⟩ : ∃ c, cofM (K : Int) L (s : Int) (z : Int) = c := ⟨_, rfl⟩
            obtain ⟨dz, hdz⟩ : ∃ c, dsT (K : Int) L (z : Int) (k : Int) = c := ⟨_, rfl⟩
            rw [hcc, hdz, ← HDD.out] at hzs
            have hw : IntKind.i64.wrap (cc + dz) = dd := by rw [hzs]; exact IntWalk.i64_in _ (by omega)
            clear hz hzb hzs
            go_wp2_with fail
            refine wp_region_held_drew (S := (fun w' => w'.cell? ⟨X, 0, none⟩ = some (.int .i64 (K : Int)) ∧ w'.cell? ⟨X, 1, none⟩ = some (.slice ga L.length gc) ∧ w'.cell? ⟨gh, j, none⟩ = some (.int .i64 (z : Int)) ∧ w'.cell? ⟨D, k, none⟩ = some (.int .i64 dd) ∧ Hid (Below wh.heap.size wh w'))) (by kernel_rfl) ?_ (fun hHeld => ?_)
            · exact ⟨x0, x1, r5, r3, Lib.hid hQ.out.drew⟩
            refine step_read 0 90 rfl rfl (by kernel_rfl) (by kernel_rfl) (by kernel_rfl) (fun _ _ _ h => h) (by rfl) (v := ?_) (fun w hSw => ?_) (by assumption) ?_; rotate_left; (focus ((try dsimp only at hSw); go_simp; first | done | exact rfl)); simp only [List.set]
            refine step_read 1 91 rfl rfl (by kernel_rfl) (by kernel_rfl) (by kernel_rfl) (fun _ _ _ h => h) (by rfl) (v := ?_) (fun w hSw => ?_) (by assumption) ?_; rotate_left; (focus ((try dsimp only at hSw); go_simp; first | done | exact rfl)); simp only [List.set]
            refine step_read 2 92 rfl rfl (by kernel_rfl) (by kernel_rfl) (by kernel_rfl) (fun _ _ _ h => h) (by rfl) (v := ?_) (fun w hSw => ?_) (by assumption) ?_; rotate_left; (focus ((try dsimp only at hSw); go_simp; first | done | exact rfl)); simp only [List.set]
            refine step_read 3 93 rfl rfl (by kernel_rfl) (by kernel_rfl) (by kernel_rfl) (fun _ _ _ h => h) (by rfl) (v := ?_) (fun w hSw => ?_) (by assumption) ?_; rotate_left; (focus ((try dsimp only at hSw); go_simp; first | done | exact rfl)); simp only [List.set]
            refine step_read 4 94 rfl rfl (by kernel_rfl) (by kernel_rfl) (by kernel_rfl) (fun _ _ _ h => h) (by rfl) (v := ?_) (fun w hSw => ?_) (by assumption) ?_; rotate_left; (focus ((try dsimp only at hSw); go_simp; first | done | exact rfl)); simp only [List.set]
            refine step_read 5 95 rfl rfl (by kernel_rfl) (by kernel_rfl) (by kernel_rfl) (fun _ _ _ h => h) (by rfl) (v := ?_) (fun w hSw => ?_) (by assumption) ?_; rotate_left; (focus ((try dsimp only at hSw); go_simp; first | done | exact rfl)); simp only [List.set]
            refine step_read 7 97 rfl rfl (by kernel_rfl) (by kernel_rfl) (by kernel_rfl) (fun _ _ _ h => h) (by rfl) (v := ?_) (fun w hSw => ?_) (by assumption) ?_; rotate_left; (focus ((try dsimp only at hSw); go_simp; first | done | exact rfl)); simp only [List.set]
            refine step_read 8 98 rfl rfl (by kernel_rfl) (by kernel_rfl) (by kernel_rfl) (fun _ _ _ h => h) (by rfl) (v := ?_) (fun w hSw => ?_) (by assumption) ?_; rotate_left; (focus ((try dsimp only at hSw); go_simp; first | done | exact rfl)); simp only [List.set]
            refine step_read 9 99 rfl rfl (by kernel_rfl) (by kernel_rfl) (by kernel_rfl) (fun _ _ _ h => h) (by rfl) (v := ?_) (fun w hSw => ?_) (by assumption) ?_; rotate_left; (focus ((try dsimp only at hSw); go_simp; first | done | exact rfl)); simp only [List.set]
            refine step_read 10 100 rfl rfl (by kernel_rfl) (by kernel_rfl) (by kernel_rfl) (fun _ _ _ h => h) (by rfl) (v := ?_) (fun w hSw => ?_) (by assumption) ?_; rotate_left; (focus ((try dsimp only at hSw); go_simp; first | done | exact rfl)); simp only [List.set]
            refine step_read 11 101 rfl rfl (by kernel_rfl) (by kernel_rfl) (by kernel_rfl) (fun _ _ _ h => h) (by rfl) (v := ?_) (fun w hSw => ?_) (by assumption) ?_; rotate_left; (focus ((try dsimp only at hSw); go_simp; first | done | exact rfl)); simp only [List.set]
            refine step_read 13 103 rfl rfl (by kernel_rfl) (by kernel_rfl) (by kernel_rfl) (fun _ _ _ h => h) (by rfl) (v := ?_) (fun w hSw => ?_) (by assumption) ?_; rotate_left; (focus ((try dsimp only at hSw); go_simp; first | done | exact rfl)); simp only [List.set]
            refine step_read 17 107 rfl rfl (by kernel_rfl) (by kernel_rfl) (by kernel_rfl) (fun _ _ _ h => h) (by rfl) (v := ?_) (fun w hSw => ?_) (by assumption) ?_; rotate_left; (focus ((try dsimp only at hSw); go_simp; first | done | exact rfl)); simp only [List.set]
            refine step_read 18 108 rfl rfl (by kernel_rfl) (by kernel_rfl) (by kernel_rfl) (fun _ _ _ h => h) (by rfl) (v := ?_) (fun w hSw => ?_) (by assumption) ?_; rotate_left; (focus ((try dsimp only at hSw); go_simp; first | done | exact rfl)); simp only [List.set]
            refine step_read 19 109 rfl rfl (by kernel_rfl) (by kernel_rfl) (by kernel_rfl) (fun _ _ _ h => h) (by rfl) (v := ?_) (fun w hSw => ?_) (by assumption) ?_; rotate_left; (focus ((try dsimp only at hSw); go_simp; first | done | exact rfl)); simp only [List.set]
            refine step_read 20 110 rfl rfl (by kernel_rfl) (by kernel_rfl) (by kernel_rfl) (fun _ _ _ h => h) (by rfl) (v := ?_) (fun w hSw => ?_) (by assumption) ?_; rotate_left; (focus ((try dsimp only at hSw); go_simp; first | done | exact rfl)); simp only [List.set]
            refine wpAnyH_ready (rs := [6]) (by kernel_rfl) (by simp) ?_
            refine AllReadyH.cons rfl (fun Kc hK => ?_) (AllReadyH.nil)
            go_simp
            go_at_call 39
            have hh := hHeld.2.2.2.2
            have hq := HBh.out.trans (hh.out.mono HBh.out.size)
            refine (icof_any (K : Int) _ _ L.length _ L (s : Int) (z : Int) _ rfl (HRb.out.below hq hsb) (Nat.le_trans hsb hq.size)).mono ?_
            rintro e wq ⟨rfl, hbq⟩
            rw [hcc]
            have c1 := cell_kept hbq hHeld.1
            have c2 := cell_kept hbq hHeld.2.1
            have c3 := cell_kept hbq hHeld.2.2.1
            have c4 := cell_kept hbq hHeld.2.2.2.1
            have c5 : Hid (Below wh.heap.size wh wq) := hh.out.trans (hbq.mono hh.out.size)
            clear hHeld hh hbq hq
            refine hK.out _ _ ?_ (fun hHeld => ?_)
            · exact ⟨c1, c2, c3, c4, c5⟩
            clear hK Kc
            refine wpAnyH_ready (rs := [12]) (by kernel_rfl) (by simp) ?_
            refine AllReadyH.cons rfl (fun Kc hK => ?_) (AllReadyH.nil)
            clear c1 c2 c3 c4 c5
            go_simp
            go_at_call 35
            have hh := hHeld.2.2.2.2
            have hq := HBh.out.trans (hh.out.mono HBh.out.size)
            refine (sdist_any (K : Int) _ _ L.length _ L (z : Int) _ rfl (HRb.out.below hq hsb) (Nat.le_trans hsb hq.size)).mono ?_
            rintro e wq ⟨dv, rfl, hdr, hbq⟩
            rw [distN_yes HG.out hzK, distL_yes HG.out hzK] at hdr
            obtain ⟨D2, cd2, e1, _, _, hdc⟩ := row_cells hK1.1 hdr
            subst e1
            have u0 := nums_of hdc k hlt
            rw [hdz] at u0
            have c1 := cell_kept hbq hHeld.1
            have c2 := cell_kept hbq hHeld.2.1
            have c3 := cell_kept hbq hHeld.2.2.1
            have c4 := cell_kept hbq hHeld.2.2.2.1
            have c5 : Hid (Below wh.heap.size wh wq) := hh.out.trans (hbq.mono hh.out.size)
            clear hHeld hh hbq hq hdr hdc
            refine hK.out _ _ ?_ (fun hHeld => ?_)
            · exact ⟨c1, c2, c3, c4, c5⟩
            clear hK Kc
            refine step_read 14 104 rfl rfl (by kernel_rfl) (by kernel_rfl) (by kernel_rfl) (fun _ _ _ h => h) (by rfl) (v := ?_) (fun w hSw => ?_) (by assumption) ?_; rotate_left; (focus ((try dsimp only at hSw); go_simp; first | done | exact rfl)); simp only [List.set]
            refine wpAnyH_ready (rs := [15]) (by kernel_rfl) (by simp) ?_
            refine AllReadyH.cons rfl (fun Kc hK => ?_) (AllReadyH.nil)
            clear c1 c2 c3 c4 c5
            go_simp
            refine hK.out _ _ ?_ (fun hHeld => ?_)
            · exact hHeld
            clear hK Kc
            refine step_read 16 106 rfl rfl (by kernel_rfl) (by kernel_rfl) (by kernel_rfl) (fun _ _ _ h => h) (by rfl) (v := ?_) (fun w hSw => ?_) (by assumption) ?_; rotate_left; (focus ((try dsimp only at hSw); go_simp; first | done | exact rfl)); simp only [List.set]
            refine step_read 21 111 rfl rfl (by kernel_rfl) (by kernel_rfl) (by kernel_rfl) (fun _ _ _ h => h) (by rfl) (v := ?_) (fun w hSw => ?_) (by assumption) ?_; rotate_left; (focus ((try dsimp only at hSw); go_simp; first | done | exact rfl)); simp only [List.set]
            refine wpAnyH_done (by kernel_rfl) ?_ _
            have HV := hHeld.2.2.2.2
            clear hHeld u0
            go_wp2_with fail
            go_roundw
            case rel => exact ⟨j + 1, by omega, by go_num, HV⟩
            case measure => simp [intOf]; omega
          · have hge : ¬ ((j : Int) < (m : Int)) := by omega
            have t4 := cell_kept hQ.out r4
            have hyb : hasB (hopsL (K : Int) L (y : Int) (k : Int)) (k : Int) = true := by
              obtain ⟨i, hi⟩ := List.mem_iff_getElem?.1 hyin.out
              exact hasB_yes hi
            have hy1 : (0 : Int) ≤ (y : Int) := by omega
            have hy2 : decide ((y : Int) ≥ 0) = true := decide_eq_true hy1
            go_wp2_with fail
            refine wp_region_held_drew (S := (fun w' => w'.cell? ⟨T, k, none⟩ = some (.int .i64 (y : Int)) ∧ w'.cell? ⟨X, 0, none⟩ = some (.int .i64 (K : Int)) ∧ w'.cell? ⟨X, 1, none⟩ = some (.slice ga L.length gc) ∧ Hid (Below wh.heap.size wh w'))) (by kernel_rfl) ?_ (fun hHeld => ?_)
            · exact ⟨t4, x0, x1, Lib.hid hQ.out.drew⟩
            refine step_read 0 112 rfl rfl (by kernel_rfl) (by kernel_rfl) (by kernel_rfl) (fun _ _ _ h => h) (by rfl) (v := ?_) (fun w hSw => ?_) (by assumption) ?_; rotate_left; (focus ((try dsimp only at hSw); go_simp; first | done | exact rfl)); simp only [List.set]
            refine step_read 1 113 rfl rfl (by kernel_rfl) (by kernel_rfl) (by kernel_rfl) (fun _ _ _ h => h) (by rfl) (v := ?_) (fun w hSw => ?_) (by assumption) ?_; rotate_left; (focus ((try dsimp only at hSw); go_simp; first | done | exact rfl)); simp only [List.set]
            refine step_read 2 114 rfl rfl (by kernel_rfl) (by kernel_rfl) (by kernel_rfl) (fun _ _ _ h => h) (by rfl) (v := ?_) (fun w hSw => ?_) (by assumption) ?_; rotate_left; (focus ((try dsimp only at hSw); go_simp; first | done | exact rfl)); simp only [List.set]
            refine step_read 3 115 rfl rfl (by kernel_rfl) (by kernel_rfl) (by kernel_rfl) (fun _ _ _ h => h) (by rfl) (v := ?_) (fun w hSw => ?_) (by assumption) ?_; rotate_left; (focus ((try dsimp only at hSw); go_simp; first | done | exact rfl)); simp only [List.set]
            refine step_read 4 116 rfl rfl (by kernel_rfl) (by kernel_rfl) (by kernel_rfl) (fun _ _ _ h => h) (by rfl) (v := ?_) (fun w hSw => ?_) (by assumption) ?_; rotate_left; (focus ((try dsimp only at hSw); go_simp; first | done | exact rfl)); simp only [List.set]
            refine step_read 5 117 rfl rfl (by kernel_rfl) (by kernel_rfl) (by kernel_rfl) (fun _ _ _ h => h) (by rfl) (v := ?_) (fun w hSw => ?_) (by assumption) ?_; rotate_left; (focus ((try dsimp only at hSw); go_simp; first | done | exact rfl)); simp only [List.set]
            refine step_read 6 118 rfl rfl (by kernel_rfl) (by kernel_rfl) (by kernel_rfl) (fun _ _ _ h => h) (by rfl) (v := ?_) (fun w hSw => ?_) (by assumption) ?_; rotate_left; (focus ((try dsimp only at hSw); go_simp; first | done | exact rfl)); simp only [List.set]
            refine step_read 7 119 rfl rfl (by kernel_rfl) (by kernel_rfl) (by kernel_rfl) (fun _ _ _ h => h) (by rfl) (v := ?_) (fun w hSw => ?_) (by assumption) ?_; rotate_left; (focus ((try dsimp only at hSw); go_simp; first | done | exact rfl)); simp only [List.set]
            refine step_read 8 120 rfl rfl (by kernel_rfl) (by kernel_rfl) (by kernel_rfl) (fun _ _ _ h => h) (by rfl) (v := ?_) (fun w hSw => ?_) (by assumption) ?_; rotate_left; (focus ((try dsimp only at hSw); go_simp; first | done | exact rfl)); simp only [List.set]
            refine step_read 9 121 rfl rfl (by kernel_rfl) (by kernel_rfl) (by kernel_rfl) (fun _ _ _ h => h) (by rfl) (v := ?_) (fun w hSw => ?_) (by assumption) ?_; rotate_left; (focus ((try dsimp only at hSw); go_simp; first | done | exact rfl)); simp only [List.set]
            refine step_read 10 122 rfl rfl (by kernel_rfl) (by kernel_rfl) (by kernel_rfl) (fun _ _ _ h => h) (by rfl) (v := ?_) (fun w hSw => ?_) (by assumption) ?_; rotate_left; (focus ((try dsimp only at hSw); go_simp; first | done | exact rfl)); simp only [List.set]
            refine step_read 11 123 rfl rfl (by kernel_rfl) (by kernel_rfl) (by kernel_rfl) (fun _ _ _ h => h) (by rfl) (v := ?_) (fun w hSw => ?_) (by assumption) ?_; rotate_left; (focus ((try dsimp only at hSw); go_simp; first | done | exact rfl)); simp only [List.set]
            refine step_read 12 124 rfl rfl (by kernel_rfl) (by kernel_rfl) (by kernel_rfl) (fun _ _ _ h => h) (by rfl) (v := ?_) (fun w hSw => ?_) (by assumption) ?_; rotate_left; (focus ((try dsimp only at hSw); go_simp; first | done | exact rfl)); simp only [List.set]
            refine step_read 13 125 rfl rfl (by kernel_rfl) (by kernel_rfl) (by kernel_rfl) (fun _ _ _ h => h) (by rfl) (v := ?_) (fun w hSw => ?_) (by assumption) ?_; rotate_left; (focus ((try dsimp only at hSw); go_simp; first | done | exact rfl)); simp only [List.set]
            refine step_read 14 126 rfl rfl (by kernel_rfl) (by kernel_rfl) (by kernel_rfl) (fun _ _ _ h => h) (by rfl) (v := ?_) (fun w hSw => ?_) (by assumption) ?_; rotate_left; (focus ((try dsimp only at hSw); go_simp; first | done | exact rfl)); simp only [List.set]
            refine step_read 15 127 rfl rfl (by kernel_rfl) (by kernel_rfl) (by kernel_rfl) (fun _ _ _ h => h) (by rfl) (v := ?_) (fun w hSw => ?_) (by assumption) ?_; rotate_left; (focus ((try dsimp only at hSw); go_simp; first | done | exact rfl)); simp only [List.set]
            refine step_read 16 128 rfl rfl (by kernel_rfl) (by kernel_rfl) (by kernel_rfl) (fun _ _ _ h => h) (by rfl) (v := ?_) (fun w hSw => ?_) (by assumption) ?_; rotate_left; (focus ((try dsimp only at hSw); go_simp; first | done | exact rfl)); simp only [List.set]
            refine step_read 17 129 rfl rfl (by kernel_rfl) (by kernel_rfl) (by kernel_rfl) (fun _ _ _ h => h) (by rfl) (v := ?_) (fun w hSw => ?_) (by assumption) ?_; rotate_left; (focus ((try dsimp only at hSw); go_simp; first | done | exact rfl)); simp only [List.set]
            refine step_read 18 130 rfl rfl (by kernel_rfl) (by kernel_rfl) (by kernel_rfl) (fun _ _ _ h => h) (by rfl) (v := ?_) (fun w hSw => ?_) (by assumption) ?_; rotate_left; (focus ((try dsimp only at hSw); go_simp; first | done | exact rfl)); simp only [List.set]
            refine step_read 19 131 rfl rfl (by kernel_rfl) (by kernel_rfl) (by kernel_rfl) (fun _ _ _ h => h) (by rfl) (v := ?_) (fun w hSw => ?_) (by assumption) ?_; rotate_left; (focus ((try dsimp only at hSw); go_simp; first | done | exact rfl)); simp only [List.set]
            refine step_read 20 132 rfl rfl (by kernel_rfl) (by kernel_rfl) (by kernel_rfl) (fun _ _ _ h => h) (by rfl) (v := ?_) (fun w hSw => ?_) (by assumption) ?_; rotate_left; (focus ((try dsimp only at hSw); go_simp; first | done | exact rfl)); simp only [List.set]
            refine step_read 21 133 rfl rfl (by kernel_rfl) (by kernel_rfl) (by kernel_rfl) (fun _ _ _ h => h) (by rfl) (v := ?_) (fun w hSw => ?_) (by assumption) ?_; rotate_left; (focus ((try dsimp only at hSw); go_simp; first | done | exact rfl)); simp only [List.set]
            refine step_read 23 135 rfl rfl (by kernel_rfl) (by kernel_rfl) (by kernel_rfl) (fun _ _ _ h => h) (by rfl) (v := ?_) (fun w hSw => ?_) (by assumption) ?_; rotate_left; (focus ((try dsimp only at hSw); go_simp; first | done | exact rfl)); simp only [List.set]
            refine wpAnyH_ready (rs := [22]) (by kernel_rfl) (by simp) ?_
            refine AllReadyH.cons rfl (fun Kc hK => ?_) (AllReadyH.nil)
            go_simp
            go_at_call 37
            have hh := hHeld.2.2.2
            have hq := HBh.out.trans (hh.out.mono HBh.out.size)
            refine (ihop_any (K : Int) _ _ L.length _ L (y : Int) (k : Int) _ rfl (HRb.out.below hq hsb) (Nat.le_trans hsb hq.size)).mono ?_
            rintro e wq ⟨hv2, rfl, hr2, hbq⟩
            have HR9 := Lib.hid hr2
            have c1 := cell_kept hbq hHeld.1
            have c2 := cell_kept hbq hHeld.2.1
            have c3 := cell_kept hbq hHeld.2.2.1
            have c5 : Hid (Below wh.heap.size wh wq) := hh.out.trans (hbq.mono hh.out.size)
            clear hHeld hh hbq hq hr2
            refine hK.out _ _ ?_ (fun hHeld => ?_)
            · exact ⟨c1, c2, c3, c5⟩
            clear hK Kc
            refine wpAnyH_ready (rs := [24]) (by kernel_rfl) (by simp) ?_
            refine AllReadyH.cons rfl (fun Kc hK => ?_) (AllReadyH.nil)
            clear c1 c2 c3 c5
            go_simp
            go_at_call 40
            refine (within_any (hopsL (K : Int) L (y : Int) (k : Int)) _ _ _ hv2 (k : Int) _ HR9.out).mono ?_
            rintro e wq2 ⟨he, hw2⟩
            subst hw2
            rw [hyb] at he
            subst he
            refine hK.out _ _ ?_ (fun hHeld => ?_)
            · exact hHeld
            clear hK Kc
            refine step_read 25 137 rfl rfl (by kernel_rfl) (by kernel_rfl) (by kernel_rfl) (fun _ _ _ h => h) (by rfl) (v := ?_) (fun w hSw => ?_) (by assumption) ?_; rotate_left; (focus ((try dsimp only at hSw); go_simp; first | done | exact rfl)); simp only [List.set]
            refine step_read 26 138 rfl rfl (by kernel_rfl) (by kernel_rfl) (by kernel_rfl) (fun _ _ _ h => h) (by rfl) (v := ?_) (fun w hSw => ?_) (by assumption) ?_; rotate_left; (focus ((try dsimp only at hSw); go_simp; first | done | exact rfl)); simp only [List.set]
            refine step_read 27 139 rfl rfl (by kernel_rfl) (by kernel_rfl) (by kernel_rfl) (fun _ _ _ h => h) (by rfl) (v := ?_) (fun w hSw => ?_) (by assumption) ?_; rotate_left; (focus ((try dsimp only at hSw); go_simp; first | done | exact rfl)); simp only [List.set]
            refine wpAnyH_done (by kernel_rfl) ?_ _
            have HV := hHeld.2.2.2
            clear hHeld
            go_wp2_with fail
            go_roundw
            case rel => exact ⟨k + 1, by omega, by go_num, Lib.hid (HBh.out.trans (HV.out.mono HBh.out.size))⟩
            case measure => simp [intOf]; omega
    · have hge : ¬ ((k : Int) < (K : Int)) := by omega
      go_wp2_with fail
      go_ret
      exact ⟨rfl, HBb.out.trans (hR.out.mono HBb.out.size)⟩

end Go.Proofs.Ytnpdbieadjgghaa
