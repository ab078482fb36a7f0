/- HopsTo of the model. -/
import Derived.Test.YtjenjdhoblcohaaKp
import Derived.Test.YtjenjdhoblcohaaWi
import Derived.Test.YtjenjdhoblcohaaLm
namespace Go.Proofs.Ytjenjdhoblcohaa
open Go.RowKit


theorem setL_nil {f : Int → Bool} (h : ∀ x, f x = false) : setL f = [] := by
  unfold setL
  exact List.filter_eq_nil_iff.2 (fun x _ => by simp [h x])
theorem tgP_self {N : Int} {L : List Ed} {x z : Int} (hG : gok N L = true) (hx : 0 ≤ x ∧ x < N) : ¬ tgP N L x x z := fun h => by
  have h0 := dsT_self (L := L) hG hx
  have := (tgP.facts hG h).2.2.1
  have h1 := (dsT_bnd (s := z) hG (tgP.facts hG h).2.1 x).1
  omega
theorem tgP_far {N : Int} {L : List Ed} {x y z : Int} (hG : gok N L = true) (h : dsT N L x y = Far) : ¬ tgP N L y x z := fun ht => absurd h (tgP.facts hG ht).2.2.2
/-- The next hops among the first k nodes. -/
def hopK (N : Int) (L : List Ed) (s o : Int) (k : Nat) : List Int := ((List.range k).map fun (i : Nat) => (i : Int)).filter fun z => decide (tgP N L o s z)
theorem hopK_succ (N : Int) (L : List Ed) (s o : Int) (k : Nat) : hopK N L s o (k + 1) = hopK N L s o k ++ if tgP N L o s (k : Int) then [(k : Int)] else [] := by
  unfold hopK
  rw [List.range_succ, List.map_append, List.filter_append]
  congr 1
  simp [List.filter]
  split <;> simp_all
theorem hopK_len (N : Int) (L : List Ed) (s o : Int) (k : Nat) : (hopK N L s o k).length ≤ k := by
  unfold hopK
  have := List.length_filter_le (fun z => decide (tgP N L o s z)) ((List.range k).map fun (i : Nat) => (i : Int))
  simpa using this
theorem hopK_all {M : Nat} {L : List Ed} {s o : Int} (hG : gok (M : Int) L = true) : hopK (M : Int) L s o M = setL (fun z => decide (tgP (M : Int) L o s z)) := by
  have hN := (gok_parts hG).2.1
  refine rising_eq ?_ (setL_sorted _) (fun x => ?_)
  · unfold hopK
    exact ((List.pairwise_map.2 (List.pairwise_lt_range.imp (fun h => by omega))).filter _)
  · rw [mem_setL]
    unfold hopK
    rw [List.mem_filter, List.mem_map]
    constructor
    · rintro ⟨⟨i, hi, rfl⟩, h⟩
      rw [List.mem_range] at hi
      exact ⟨⟨by omega, by omega⟩, h⟩
    · rintro ⟨_, h⟩
      have hx := (tgP.facts hG (of_decide_eq_true h)).2.1
      exact ⟨⟨x.toNat, by rw [List.mem_range]; omega, by omega⟩, h⟩
theorem scost_ne {N : Int} {L : List Ed} {x y : Int} (hx : ndB N x = true) (hy : ndB N y = true) (h : x ≠ y) : scost N L x y = cst L x y := by
  unfold scost
  rw [if_pos ⟨hx, hy⟩, if_neg h]

set_option maxRecDepth 100000 in
set_option maxHeartbeats 2400000 in
theorem shop_no0 (N : Int) (lo hi n : Nat) (v : Value) (L : List Ed) (x y : Int) (w : World) (hL : L.length = n) (hr : Row 3 w lo hi v n (flat L)) (hh : hi ≤ w.heap.size) (hn : gok N L = false) :
    Calls Try.prog 49 #[.agg #[.int .i64 N, v], .int .i64 x, .int .i64 y] w (LiPost [] w) := by
  have HR := Lib.hid hr
  have Hn := Lib.hid hn
  obtain ⟨ad, cp, rfl⟩ := hr.slice
  clear hr hn
  go_enter Try.func49, Try.ntmps49
  go_wp2_with fail
  go_at_call 47
  refine (sgok_any N lo hi n _ L _ hL (HR.out.below (B := w.heap.size) (by go_grown) (by omega)) (by simp; omega)).mono ?_
  rw [Hn.out]
  rintro e v1 ⟨rfl, hb1⟩
  have sz1 : w.heap.size + 2 ≤ v1.heap.size := by have hh := hb1.size; simp at hh; omega
  have st1 : Below w.heap.size w v1 := Below.trans (by go_grown) (hb1.mono (by simp <;> omega))
  have c1_0 : v1.cell? ⟨w.heap.size, 0, none⟩ = some (.int .i64 N) := by rw [(bcell hb1).1 _ _ (by simp <;> omega), old_box (by simp <;> omega)]; first | (rw [new_at (by simp)]; rfl) | simp
  have c1_1 : v1.cell? ⟨w.heap.size, 1, none⟩ = some (.slice ad n cp) := by rw [(bcell hb1).1 _ _ (by simp <;> omega), old_box (by simp <;> omega)]; first | (rw [new_at (by simp)]; rfl) | simp
  have B1 : Hid (Below w.heap.size w v1) := st1
  have R1_0 : Hid (Row 3 v1 (lo) (hi) (.slice ad n cp) n (flat L)) := HR.out.below st1 (by omega)
  have d1_0 : w.heap.size < v1.heap.size := by omega
  have e1_0 : w.heap.size ≠ v1.heap.size := by omega
  clear st1 HR hb1
  go_wp2_with fail
  go_ret
  exact ⟨_, rfl, Row.empty 1 _ _ _ _ _, B1.out⟩

set_option maxRecDepth 100000 in
set_option maxHeartbeats 2400000 in
theorem shop_no1 (N : Int) (lo hi n : Nat) (v : Value) (L : List Ed) (x y : Int) (w : World) (hL : L.length = n) (hr : Row 3 w lo hi v n (flat L)) (hh : hi ≤ w.heap.size) (hn : gok N L = true ∧ ndB N x = false) :
    Calls Try.prog 49 #[.agg #[.int .i64 N, v], .int .i64 x, .int .i64 y] w (LiPost [] w) := by
  have HR := Lib.hid hr
  have Hn := Lib.hid hn
  obtain ⟨ad, cp, rfl⟩ := hr.slice
  clear hr hn
  have hN1 := (gok_parts Hn.out.1).1
  have hN2 := (gok_parts Hn.out.1).2.1
  go_enter Try.func49, Try.ntmps49
  go_wp2_with fail
  go_at_call 47
  refine (sgok_any N lo hi n _ L _ hL (HR.out.below (B := w.heap.size) (by go_grown) (by omega)) (by simp; omega)).mono ?_
  rw [Hn.out.1]
  rintro e v1 ⟨rfl, hb1⟩
  have sz1 : w.heap.size + 2 ≤ v1.heap.size := by have hh := hb1.size; simp at hh; omega
  have st1 : Below w.heap.size w v1 := Below.trans (by go_grown) (hb1.mono (by simp <;> omega))
  have c1_0 : v1.cell? ⟨w.heap.size, 0, none⟩ = some (.int .i64 N) := by rw [(bcell hb1).1 _ _ (by simp <;> omega), old_box (by simp <;> omega)]; first | (rw [new_at (by simp)]; rfl) | simp
  have c1_1 : v1.cell? ⟨w.heap.size, 1, none⟩ = some (.slice ad n cp) := by rw [(bcell hb1).1 _ _ (by simp <;> omega), old_box (by simp <;> omega)]; first | (rw [new_at (by simp)]; rfl) | simp
  have B1 : Hid (Below w.heap.size w v1) := st1
  have R1_0 : Hid (Row 3 v1 (lo) (hi) (.slice ad n cp) n (flat L)) := HR.out.below st1 (by omega)
  have d1_0 : w.heap.size < v1.heap.size := by omega
  have e1_0 : w.heap.size ≠ v1.heap.size := by omega
  clear st1 HR hb1
  go_wp2_with fail
  go_at_call 48
  refine (node_any N _ _ _ x _ hN1 hN2).mono ?_
  rw [Hn.out.2]
  rintro e v2 ⟨rfl, hb2⟩
  have sz2 : v1.heap.size ≤ v2.heap.size := hb2.size
  have st2 : Below v1.heap.size v1 v2 := hb2
  have c2_0 : v2.cell? ⟨w.heap.size, 0, none⟩ = some (.int .i64 N) := by rw [(bcell st2).1 _ _ (by omega)]; exact c1_0
  have c2_1 : v2.cell? ⟨w.heap.size, 1, none⟩ = some (.slice ad n cp) := by rw [(bcell st2).1 _ _ (by omega)]; exact c1_1
  have B2 : Hid (Below w.heap.size w v2) := B1.out.trans (st2.mono (by omega))
  have R2_0 : Hid (Row 3 v2 (lo) (hi) (.slice ad n cp) n (flat L)) := R1_0.out.below st2 (by omega)
  have d2_0 : w.heap.size < v2.heap.size := by omega
  have e2_0 : w.heap.size ≠ v2.heap.size := by omega
  clear d1_0 e1_0 c1_0 c1_1 B1 st2 R1_0 hb2
  go_wp2_with fail
  go_ret
  exact ⟨_, rfl, Row.empty 1 _ _ _ _ _, B2.out⟩

set_option maxRecDepth 100000 in
set_option maxHeartbeats 2400000 in
theorem shop_no2 (N : Int) (lo hi n : Nat) (v : Value) (L : List Ed) (x y : Int) (w : World) (hL : L.length = n) (hr : Row 3 w lo hi v n (flat L)) (hh : hi ≤ w.heap.size) (hn : gok N L = true ∧ ndB N x = true ∧ ndB N y = false) :
    Calls Try.prog 49 #[.agg #[.int .i64 N, v], .int .i64 x, .int .i64 y] w (LiPost [] w) := by
  have HR := Lib.hid hr
  have Hn := Lib.hid hn
  obtain ⟨ad, cp, rfl⟩ := hr.slice
  clear hr hn
  have hN1 := (gok_parts Hn.out.1).1
  have hN2 := (gok_parts Hn.out.1).2.1
  go_enter Try.func49, Try.ntmps49
  go_wp2_with fail
  go_at_call 47
  refine (sgok_any N lo hi n _ L _ hL (HR.out.below (B := w.heap.size) (by go_grown) (by omega)) (by simp; omega)).mono ?_
  rw [Hn.out.1]
  rintro e v1 ⟨rfl, hb1⟩
  have sz1 : w.heap.size + 2 ≤ v1.heap.size := by have hh := hb1.size; simp at hh; omega
  have st1 : Below w.heap.size w v1 := Below.trans (by go_grown) (hb1.mono (by simp <;> omega))
  have c1_0 : v1.cell? ⟨w.heap.size, 0, none⟩ = some (.int .i64 N) := by rw [(bcell hb1).1 _ _ (by simp <;> omega), old_box (by simp <;> omega)]; first | (rw [new_at (by simp)]; rfl) | simp
  have c1_1 : v1.cell? ⟨w.heap.size, 1, none⟩ = some (.slice ad n cp) := by rw [(bcell hb1).1 _ _ (by simp <;> omega), old_box (by simp <;> omega)]; first | (rw [new_at (by simp)]; rfl) | simp
  have B1 : Hid (Below w.heap.size w v1) := st1
  have R1_0 : Hid (Row 3 v1 (lo) (hi) (.slice ad n cp) n (flat L)) := HR.out.below st1 (by omega)
  have d1_0 : w.heap.size < v1.heap.size := by omega
  have e1_0 : w.heap.size ≠ v1.heap.size := by omega
  clear st1 HR hb1
  go_wp2_with fail
  go_at_call 48
  refine (node_any N _ _ _ x _ hN1 hN2).mono ?_
  rw [Hn.out.2.1]
  rintro e v2 ⟨rfl, hb2⟩
  have sz2 : v1.heap.size ≤ v2.heap.size := hb2.size
  have st2 : Below v1.heap.size v1 v2 := hb2
  have c2_0 : v2.cell? ⟨w.heap.size, 0, none⟩ = some (.int .i64 N) := by rw [(bcell st2).1 _ _ (by omega)]; exact c1_0
  have c2_1 : v2.cell? ⟨w.heap.size, 1, none⟩ = some (.slice ad n cp) := by rw [(bcell st2).1 _ _ (by omega)]; exact c1_1
  have B2 : Hid (Below w.heap.size w v2) := B1.out.trans (st2.mono (by omega))
  have R2_0 : Hid (Row 3 v2 (lo) (hi) (.slice ad n cp) n (flat L)) := R1_0.out.below st2 (by omega)
  have d2_0 : w.heap.size < v2.heap.size := by omega
  have e2_0 : w.heap.size ≠ v2.heap.size := by omega
  clear d1_0 e1_0 c1_0 c1_1 B1 st2 R1_0 hb2
  go_wp2_with fail
  go_at_call 48
  refine (node_any N _ _ _ y _ hN1 hN2).mono ?_
  rw [Hn.out.2.2]
  rintro e v3 ⟨rfl, hb3⟩
  have sz3 : v2.heap.size ≤ v3.heap.size := hb3.size
  have st3 : Below v2.heap.size v2 v3 := hb3
  have c3_0 : v3.cell? ⟨w.heap.size, 0, none⟩ = some (.int .i64 N) := by rw [(bcell st3).1 _ _ (by omega)]; exact c2_0
  have c3_1 : v3.cell? ⟨w.heap.size, 1, none⟩ = some (.slice ad n cp) := by rw [(bcell st3).1 _ _ (by omega)]; exact c2_1
  have B3 : Hid (Below w.heap.size w v3) := B2.out.trans (st3.mono (by omega))
  have R3_0 : Hid (Row 3 v3 (lo) (hi) (.slice ad n cp) n (flat L)) := R2_0.out.below st3 (by omega)
  have d3_0 : w.heap.size < v3.heap.size := by omega
  have e3_0 : w.heap.size ≠ v3.heap.size := by omega
  clear d2_0 e2_0 c2_0 c2_1 B2 st3 R2_0 hb3
  go_wp2_with fail
  go_ret
  exact ⟨_, rfl, Row.empty 1 _ _ _ _ _, B3.out⟩

set_option maxRecDepth 100000 in
set_option maxHeartbeats 4000000 in
theorem shop_yes (M : Nat) (lo hi n : Nat) (v : Value) (L : List Ed) (s o : Nat) (w : World) (hL : L.length = n) (hr : Row 3 w lo hi v n (flat L)) (hh : hi ≤ w.heap.size) (hG : gok (M : Int) L = true) (hs : s < M) (ho : o < M) :
    Calls Try.prog 49 #[.agg #[.int .i64 (M : Int), v], .int .i64 (s : Int), .int .i64 (o : Int)] w (LiPost (setL (fun z => decide (tgP (M : Int) L (o : Int) (s : Int) z))) w) := by
  have HR := Lib.hid hr
  have HG := Lib.hid hG
  have HL := Lib.hid hL
  have hN1 := (gok_parts hG).1
  have hN2 := (gok_parts hG).2.1
  have HS2 : Hid (0 ≤ (s : Int) ∧ (s : Int) < (M : Int)) := ⟨by omega, by omega⟩
  have hns : ndB (M : Int) (s : Int) = true := by unfold ndB; rw [inB_iff]; omega
  have hno : ndB (M : Int) (o : Int) = true := by unfold ndB; rw [inB_iff]; omega
  have Hns := Lib.hid hns
  obtain ⟨ad, cp, rfl⟩ := hr.slice
  obtain ⟨i3, hi3, hz0, hz1, hz2⟩ := info_parts Try.info3
  have I := Lib.hid (And.intro hi3 (And.intro hz0 (And.intro hz1 hz2)))
  clear hr hG hi3 hz0 hz1 hz2
  go_enter Try.func49, Try.ntmps49
  go_wp2_with fail
  obtain ⟨v0, hv0⟩ : ∃ v0, v0 = w.alloc (.cells #[.int .i64 (M : Int), .slice ad n cp] 29) := ⟨_, rfl⟩
  have hv0s : v0.heap.size = w.heap.size + 1 := by rw [hv0]; simp
  have hwv : w.heap.size < v0.heap.size := by omega
  have K0 : Hid (v0.cell? ⟨w.heap.size, 0, none⟩ = some (.int .i64 (M : Int))) := by rw [hv0]; show _ = _; simp
  have K1 : Hid (v0.cell? ⟨w.heap.size, 1, none⟩ = some (.slice ad n cp)) := by rw [hv0]; show _ = _; simp
  have HBv : Hid (Below w.heap.size w v0) := by rw [hv0]; show Below _ _ _; go_grown
  have HRv : Hid (Row 3 v0 lo hi (.slice ad n cp) n (flat L)) := HR.out.below HBv.out (by omega)
  obtain ⟨v1, hv1⟩ : ∃ v1, v1 = v0.alloc (.cells #[] 3) := ⟨_, rfl⟩
  have HO : Hid (OwnI v0 v1 (.slice (some ⟨v0.heap.size, 0, none⟩) 0 0) 0 []) := by rw [hv1]; exact Lib.hid (OwnI.lit0 v0)
  rw [← hv0]
  rw [← hv1]
  rw [hv0s] at HO
  have HV := Lib.hid hv0s
  have k0 : v1.cell? ⟨w.heap.size, 0, none⟩ = some (.int .i64 (M : Int)) := by rw [HO.out.below.cell (p := ⟨w.heap.size, 0, none⟩) hwv]; exact K0.out
  have k1 : v1.cell? ⟨w.heap.size, 1, none⟩ = some (.slice ad n cp) := by rw [HO.out.below.cell (p := ⟨w.heap.size, 1, none⟩) hwv]; exact K1.out
  have hs1 := HO.out.below.size
  have hwv1 : w.heap.size < v1.heap.size := by omega
  have HR1 : Hid (Row 3 v1 lo hi (.slice ad n cp) n (flat L)) := HRv.out.below HO.out.below (by rw [HV.out]; omega)
  have hh1 : hi ≤ v1.heap.size := by rw [HV.out] at hs1; omega
  clear hv0 hv1 HR hv0s
  go_at_call 47
  refine (sgok_any (M : Int) lo hi n _ L _ hL HR1.out hh1).mono ?_
  rw [HG.out]
  rintro e v2 ⟨rfl, hb2⟩
  have k0 : v2.cell? ⟨w.heap.size, 0, none⟩ = some (.int .i64 (M : Int)) := by rw [hb2.cell (p := ⟨w.heap.size, 0, none⟩) hwv1]; exact k0
  have k1 : v2.cell? ⟨w.heap.size, 1, none⟩ = some (.slice ad n cp) := by rw [hb2.cell (p := ⟨w.heap.size, 1, none⟩) hwv1]; exact k1
  have HO2 := Lib.hid (HO.out.grow hb2)
  have hwv2 : w.heap.size < v2.heap.size := by have := hb2.size; omega
  clear hb2 HO HR1 hh1
  go_wp2_with fail
  go_at_call 48
  refine (node_any (M : Int) _ _ _ (s : Int) _ hN1 hN2).mono ?_
  rw [hns]
  rintro e v3 ⟨rfl, hb3⟩
  have k0 : v3.cell? ⟨w.heap.size, 0, none⟩ = some (.int .i64 (M : Int)) := by rw [hb3.cell (p := ⟨w.heap.size, 0, none⟩) hwv2]; exact k0
  have k1 : v3.cell? ⟨w.heap.size, 1, none⟩ = some (.slice ad n cp) := by rw [hb3.cell (p := ⟨w.heap.size, 1, none⟩) hwv2]; exact k1
  have HO3 := Lib.hid (HO2.out.grow hb3)
  have hwv3 : w.heap.size < v3.heap.size := by have := hb3.size; omega
  clear hb3 HO2
  go_wp2_with fail
  go_at_call 48
  refine (node_any (M : Int) _ _ _ (o : Int) _ hN1 hN2).mono ?_
  rw [hno]
  rintro e v4 ⟨rfl, hb4⟩
  have k0 : v4.cell? ⟨w.heap.size, 0, none⟩ = some (.int .i64 (M : Int)) := by rw [hb4.cell (p := ⟨w.heap.size, 0, none⟩) hwv3]; exact k0
  have k1 : v4.cell? ⟨w.heap.size, 1, none⟩ = some (.slice ad n cp) := by rw [hb4.cell (p := ⟨w.heap.size, 1, none⟩) hwv3]; exact k1
  have HO4 := Lib.hid (HO3.out.grow hb4)
  have hs4 := HO4.out.below.size
  have HBw : Hid (Below w.heap.size w v4) := HBv.out.trans (HO4.out.below.mono (by omega))
  have HR4 : Hid (Row 3 v4 lo hi (.slice ad n cp) n (flat L)) := HRv.out.below HO4.out.below (by rw [HV.out]; omega)
  have hh4 : hi ≤ v4.heap.size := by rw [HV.out] at hs4; omega
  have hwv4 : w.heap.size < v4.heap.size := by omega
  clear hb4 HO3 hns hno hs1
  by_cases hso : s = o
  · subst hso
    have hnil : setL (fun z => decide (tgP (M : Int) L (s : Int) (s : Int) z)) = [] := setL_nil (fun x => decide_eq_false (tgP_self HG.out HS2.out))
    have Hnil := Lib.hid hnil
    clear hnil
    go_wp2_with fail
    go_ret
    rw [Hnil.out]
    exact ⟨_, rfl, Row.empty 1 _ _ _ _ _, HBw.out⟩
  · have e1 : ((s : Int) == (o : Int)) = false := by simp; omega
    have e2 : ¬ ((s : Int) = (o : Int)) := by omega
    go_wp2_with fail
    go_at_call 39
    refine (sdist_yes M lo hi n _ L s _ HL.out HR4.out hh4 HG.out hs).mono ?_
    rintro e v5 ⟨dv, rfl, hrd, hb5⟩
    obtain ⟨dg, dc, hdv, _, hd2, hdc⟩ := row_cells (by omega) hrd
    subst hdv
    have z0 : v5.cell? ⟨dg, o, none⟩ = some (.int .i64 (dsT (M : Int) L (s : Int) (o : Int))) := hdc o _ (tabI_at _ ho)
    have p1 : (0 : Int) ≤ (o : Int) := by omega
    have p2 : (o : Int) < (M : Int) := by omega
    have k0 : v5.cell? ⟨w.heap.size, 0, none⟩ = some (.int .i64 (M : Int)) := by rw [hb5.cell (p := ⟨w.heap.size, 0, none⟩) hwv4]; exact k0
    have k1 : v5.cell? ⟨w.heap.size, 1, none⟩ = some (.slice ad n cp) := by rw [hb5.cell (p := ⟨w.heap.size, 1, none⟩) hwv4]; exact k1
    have HO5 : Hid (OwnI v0 v5 (.slice (some ⟨w.heap.size + 1, 0, none⟩) 0 0) (hopK (M : Int) L (s : Int) (o : Int) 0).length (hopK (M : Int) L (s : Int) (o : Int) 0)) := Lib.hid (HO4.out.grow hb5)
    have hs5 := hb5.size
    have HBw5 : Hid (Below w.heap.size w v5) := HBw.out.trans (hb5.mono (by omega))
    obtain ⟨d, hd⟩ : ∃ d, d = dsT (M : Int) L (s : Int) (o : Int) := ⟨_, rfl⟩
    rw [← hd] at z0
    have Hd := Lib.hid hd
    clear hrd hdc hb5 hd HO4 HR4 hh4
    by_cases hdf : d = 1000000
    · have hfar : dsT (M : Int) L (s : Int) (o : Int) = Far := by rw [← Hd.out, hdf]; rfl
      have hnil : setL (fun z => decide (tgP (M : Int) L (o : Int) (s : Int) z)) = [] := setL_nil (fun x => decide_eq_false (tgP_far HG.out hfar))
      have Hnil := Lib.hid hnil
      subst hdf
      clear hfar hnil
      go_wp2_with fail
      go_ret
      rw [Hnil.out]
      exact ⟨_, rfl, Row.empty 1 _ _ _ _ _, HBw5.out⟩
    · have e3 : (d == 1000000) = false := by simp [hdf]
      have hds : 0 ≤ d ∧ d ≤ 9000 := by
        rw [Hd.out]
        exact ⟨(dsT_bnd HG.out HS2.out _).1, dsT_small HG.out HS2.out (by rw [← Hd.out]; exact hdf)⟩
      have Hds := Lib.hid hds
      clear hds
      go_wp2_with fail
      go_loopw [7, 9] (fun v i wr => ∃ k : Nat, k ≤ M ∧ i = .int .i64 (k : Int) ∧ Hid (OwnI v0 wr v (hopK (M : Int) L (s : Int) (o : Int) k).length (hopK (M : Int) L (s : Int) (o : Int) k))) (fun _ i _ => M - (intOf i).toNat)
      case atStart => exact ⟨0, Nat.zero_le _, rfl, HO5⟩
      case round =>
        obtain ⟨k, hk, rfl, hR⟩ := hrel
        have k0 : wr.cell? ⟨w.heap.size, 0, none⟩ = some (.int .i64 (M : Int)) := by rw [hR.out.below.cell (p := ⟨w.heap.size, 0, none⟩) hwv]; exact K0.out
        have k1 : wr.cell? ⟨w.heap.size, 1, none⟩ = some (.slice ad n cp) := by rw [hR.out.below.cell (p := ⟨w.heap.size, 1, none⟩) hwv]; exact K1.out
        have hsz := hR.out.below.size
        have HRw : Hid (Row 3 wr lo hi (.slice ad n cp) n (flat L)) := HRv.out.below hR.out.below (by rw [HV.out]; omega)
        have hhw : hi ≤ wr.heap.size := by rw [HV.out] at hsz; omega
        have hkl := hopK_len (M : Int) L (s : Int) (o : Int) k
        have hkn := hopK_succ (M : Int) L (s : Int) (o : Int) k
        obtain ⟨Z, hZ⟩ : ∃ Z, Z = hopK (M : Int) L (s : Int) (o : Int) k := ⟨_, rfl⟩
        rw [← hZ] at hR hkl hkn
        have Hkn := Lib.hid hkn
        have HZ := Lib.hid hZ
        clear hZ hkn
        obtain ⟨oa, oc, hov⟩ := own_slice hR.out.row
        subst hov
        by_cases hlt : k < M
        · have q0 : (k : Int) < (M : Int) := by omega
          have hnk : ndB (M : Int) (k : Int) = true := by unfold ndB; rw [inB_iff]; omega
          have Hnk := Lib.hid hnk
          clear hnk
          go_wp2_with fail
          go_at_call 71
          refine (scost_any (M : Int) lo hi n _ L (s : Int) (k : Int) _ HG.out HL.out HRw.out hhw).mono ?_
          rintro e w2 ⟨rfl, hb2⟩
          have hs2 := hb2.size
          have hwvr : w.heap.size < wr.heap.size := by omega
          have k0 : w2.cell? ⟨w.heap.size, 0, none⟩ = some (.int .i64 (M : Int)) := by rw [hb2.cell (p := ⟨w.heap.size, 0, none⟩) hwvr]; exact k0
          have k1 : w2.cell? ⟨w.heap.size, 1, none⟩ = some (.slice ad n cp) := by rw [hb2.cell (p := ⟨w.heap.size, 1, none⟩) hwvr]; exact k1
          have HR2 : Hid (OwnI v0 w2 (.slice oa Z.length oc) Z.length Z) := Lib.hid (hR.out.grow hb2)
          have HRr : Hid (Row 3 w2 lo hi (.slice ad n cp) n (flat L)) := HRw.out.below hb2 hhw
          have hhr : hi ≤ w2.heap.size := by omega
          clear hb2 hR HRw hhw
          by_cases hks : k = s
          · subst hks
            have HF : Hid (OwnI v0 w2 (.slice oa Z.length oc) (hopK (M : Int) L (k : Int) (o : Int) (k + 1)).length (hopK (M : Int) L (k : Int) (o : Int) (k + 1))) := by
              rw [Hkn.out, if_neg (fun h => h.1 (cst_self HG.out _)), List.append_nil]
              exact HR2
            go_wp2_with fail
            go_roundw
            case rel => exact ⟨k + 1, by omega, by go_num, HF⟩
            case measure => simp [intOf]; omega
          · have e4 : ((k : Int) == (s : Int)) = false := by simp; omega
            have e5 : ¬ ((k : Int) = (s : Int)) := by omega
            rw [scost_ne Hns.out Hnk.out (fun h => e5 h.symm)]
            have hcb := cst_bound HG.out (s : Int) (k : Int)
            obtain ⟨c, hc⟩ : ∃ q, q = cst L (s : Int) (k : Int) := ⟨_, rfl⟩
            rw [← hc] at hcb ⊢
            have Hc := Lib.hid hc
            clear hc
            by_cases hcf : c < 1000000
            · have hnf : cst L (s : Int) (k : Int) ≠ Far := by rw [← Hc.out]; show c ≠ 1000000; omega
              have Hnf := Lib.hid hnf
              clear hnf
              go_wp2_with fail
              go_at_call 39
              refine (sdist_yes M lo hi n _ L k _ HL.out HRr.out hhr HG.out hlt).mono ?_
              rintro e w3 ⟨dv2, rfl, hrd2, hb3⟩
              obtain ⟨dg2, dc2, hdv2, _, hd3, hdc2⟩ := row_cells (by omega) hrd2
              subst hdv2
              have z1 : w3.cell? ⟨dg2, o, none⟩ = some (.int .i64 (dsT (M : Int) L (k : Int) (o : Int))) := hdc2 o _ (tabI_at _ ho)
              have hdb := dsT_bnd HG.out (s := (k : Int)) ⟨by omega, q0⟩ (o : Int)
              obtain ⟨dk, hdk⟩ : ∃ q, q = dsT (M : Int) L (k : Int) (o : Int) := ⟨_, rfl⟩
              rw [← hdk] at z1 hdb
              have hdk2 : dk ≤ 1000000 := hdb.2
              have hdk1 : 0 ≤ dk := hdb.1
              have Hdk := Lib.hid hdk
              have hs3 := hb3.size
              have HR3 : Hid (OwnI v0 w3 (.slice oa Z.length oc) Z.length Z) := Lib.hid (HR2.out.grow hb3)
              have hwr : IntKind.i64.wrap (c + dk) = c + dk := by rw [IntKind.wrap_i64]; omega
              clear hrd2 hdc2 hb3 HR2 HRr hhr k0 k1 hdb hdk
              by_cases hsum : c + dk = d
              · have Htg : Hid (tgP (M : Int) L (o : Int) (s : Int) (k : Int)) := ⟨Hnf.out, by have := Hds.out; rw [← Hdk.out]; unfold Far; omega, by rw [← Hc.out, ← Hdk.out, ← Hd.out]; exact hsum⟩
                have e6 : (c + dk == d) = true := by simp [hsum]
                have Hw := Lib.hid HR3.out.row
                go_wp2_with (at_builtin; refine wpList_append_lies _ rfl _ _ 33 rfl v0.heap.size 3 i3 (.int .i64 0) 1 8 Try.underlying33 I.out.1 I.out.2.1 I.out.2.2.1 I.out.2.2.2 rfl (by decide) _ Z.length (ints Z) rfl (Hw.out.alloc _) ⟨w3.heap.size, 0, none⟩ 1 1 [.int .i64 (k : Int)] rfl rfl ?d0 (int_one _) (by decide) ?d1 ?d2 ?d3 _ rfl ?_)
                case d0 => exact fun a u ha => cell_one_new _ _ 3 rfl a u ha
                case d1 => unfold maxLen; omega
                case d2 => omega
                case d3 => simp; omega
                intro g4 cap4 w4 hown4 hgrow4 hat4 hlt4
                have HF : Hid (OwnI v0 w4 (.slice (some ⟨g4, 0, none⟩) (Z.length + 1) cap4) (hopK (M : Int) L (s : Int) (o : Int) (k + 1)).length (hopK (M : Int) L (s : Int) (o : Int) (k + 1))) := by
                  rw [Hkn.out, if_pos Htg.out, show (Z ++ [(k : Int)]).length = Z.length + 1 by simp]
                  exact (HR3.out.grow ((Below.refl _ _).alloc (Nat.le_refl _) _)).app hgrow4 hown4
                clear hown4 hgrow4 hat4 hlt4 HR3 Hw
                go_wp2_with fail
                go_roundw
                case rel => exact ⟨k + 1, by omega, by go_num, HF⟩
                case measure => simp [intOf]; omega
              · have e6 : (c + dk == d) = false := by simp [hsum]
                have HF : Hid (OwnI v0 w3 (.slice oa Z.length oc) (hopK (M : Int) L (s : Int) (o : Int) (k + 1)).length (hopK (M : Int) L (s : Int) (o : Int) (k + 1))) := by
                  rw [Hkn.out, if_neg (fun h => hsum (by have := h.2.2; rw [← Hc.out, ← Hdk.out, ← Hd.out] at this; exact this)), List.append_nil]
                  exact HR3
                go_wp2_with fail
                go_roundw
                case rel => exact ⟨k + 1, by omega, by go_num, HF⟩
                case measure => simp [intOf]; omega
            · have HF : Hid (OwnI v0 w2 (.slice oa Z.length oc) (hopK (M : Int) L (s : Int) (o : Int) (k + 1)).length (hopK (M : Int) L (s : Int) (o : Int) (k + 1))) := by
                rw [Hkn.out, if_neg (fun h => h.1 (by rw [← Hc.out]; show c = 1000000; omega)), List.append_nil]
                exact HR2
              go_wp2_with fail
              go_roundw
              case rel => exact ⟨k + 1, by omega, by go_num, HF⟩
              case measure => simp [intOf]; omega
        · obtain rfl : M = k := by omega
          have hge : ¬ ((M : Int) < (M : Int)) := by omega
          have hall := hopK_all (s := (s : Int)) (o := (o : Int)) HG.out
          have Hall := Lib.hid hall
          have Hrow := Lib.hid hR.out
          clear hall hR
          go_wp2_with fail
          go_ret
          rw [← Hall.out, ← HZ.out]
          exact ⟨_, rfl, (Hrow.out.toRow (by omega)).wider (by omega), HBv.out.trans (Hrow.out.below.mono (by omega))⟩
  

theorem shop_any (N : Int) (lo hi n : Nat) (v : Value) (L : List Ed) (x y : Int) (w : World) (hL : L.length = n) (hr : Row 3 w lo hi v n (flat L)) (hh : hi ≤ w.heap.size) :
    Calls Try.prog 49 #[.agg #[.int .i64 N, v], .int .i64 x, .int .i64 y] w (LiPost (hopsL N L x y) w) := by
  unfold hopsL
  by_cases hG : gok N L = true
  · have hN := gok_parts hG
    by_cases hx : ndB N x = true
    · by_cases hy : ndB N y = true
      · rw [if_pos ⟨hG, hx, hy⟩]
        obtain ⟨M, rfl⟩ : ∃ M : Nat, N = (M : Int) := ⟨N.toNat, by omega⟩
        unfold ndB at hx hy
        rw [inB_iff] at hx hy
        obtain ⟨s, rfl⟩ : ∃ s : Nat, x = (s : Int) := ⟨x.toNat, by omega⟩
        obtain ⟨o, rfl⟩ : ∃ o : Nat, y = (o : Int) := ⟨y.toNat, by omega⟩
        exact shop_yes M lo hi n v L s o w hL hr hh hG (by omega) (by omega)
      · rw [if_neg (fun h => hy h.2.2)]
        exact shop_no2 N lo hi n v L x y w hL hr hh ⟨hG, hx, by simpa using hy⟩
    · rw [if_neg (fun h => hx h.2.1)]
      exact shop_no1 N lo hi n v L x y w hL hr hh ⟨hG, by simpa using hx⟩
  · rw [if_neg (fun h => hG h.1)]
    exact shop_no0 N lo hi n v L x y w hL hr hh (by simpa using hG)

end Go.Proofs.Ytjenjdhoblcohaa
