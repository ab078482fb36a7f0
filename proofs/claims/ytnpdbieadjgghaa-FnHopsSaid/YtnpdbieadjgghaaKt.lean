/- HopTable of both. -/
import Derived.Test.YtnpdbieadjgghaaKq
import Derived.Test.YtnpdbieadjgghaaAs
namespace Go.Proofs.Ytnpdbieadjgghaa
open Go.RowKit


open Go.Maps
/-- What HopTable answers. -/
def htN (N : Int) (L : List Ed) (x : Int) : Nat := if gok N L = true ∧ ndB N x = true then N.toNat else 0
def htZ (N : Int) (L : List Ed) (x : Int) (i : Nat) : List Int := hopsL N L x (i : Int)
theorem htN_yes {M : Nat} {L : List Ed} {x : Int} (h : gok (M : Int) L = true) (hx : ndB (M : Int) x = true) : htN (M : Int) L x = M := by unfold htN; rw [if_pos ⟨h, hx⟩]; omega
theorem htZ_at {M : Nat} {L : List Ed} {x : Int} (h : gok (M : Int) L = true) (hx : ndB (M : Int) x = true) {i : Nat} (hi : i < M) : htZ (M : Int) L x i = setL (fun z => decide (tgP (M : Int) L (i : Int) x z)) := by
  unfold htZ hopsL
  rw [if_pos ⟨h, hx, by unfold ndB; rw [inB_iff]; omega⟩]
theorem maps_laid (v : World) (mp : Nat → Nat) {W : World} (hW : W = (v.alloc (.cells #[.map none, .map none, .map none, .map none, .map none, .map none, .map none, .map none, .map none, .map none] 81)).setRow v.heap.size (mapsA mp)) : Below v.heap.size v W ∧ W.heap.size = v.heap.size + 1 ∧ W.heap[v.heap.size]? = some (.cells (mapsA mp) 81 (0, 0)) := by
  subst hW
  exact ⟨below_setRow ((Below.refl _ _).alloc (Nat.le_refl _) _) (Nat.le_refl _) _, by simp, setRow_heap _ _ _ _ _ _ (heap_alloc_new _ _)⟩
def HtPost (N : Int) (L : List Ed) (x : Int) (w : World) (e : Ending) (w' : World) : Prop := ∃ rv, e = .returned rv ∧ SSx w w' rv (htN N L x) (htZ N L x)

set_option maxRecDepth 100000 in
set_option maxHeartbeats 2400000 in
theorem iht_no0 (N : Int) (lo hi n : Nat) (v : Value) (L : List Ed) (x : Int) (w : World) (hL : L.length = n) (hr : Row 3 w lo hi v n (flat L)) (hh : hi ≤ w.heap.size) (hn : gok N L = false) :
    Calls Try.prog 34 #[.agg #[.int .i64 N, v], .int .i64 x] w (HtPost N L x w) := by
  have HR := Lib.hid hr
  have Hn := Lib.hid hn
  have e0 : Hid (htN N L x = 0) := by show _ = _; unfold htN; rw [if_neg (fun h => by rw [h.1] at hn; cases hn)]
  obtain ⟨ad, cp, rfl⟩ := hr.slice
  clear hr hn
  go_enter Try.func34, Try.ntmps34
  go_wp2_with fail
  go_at_call 75
  refine (igok_any N lo hi n _ L _ hL (HR.out.below (B := w.heap.size) (by go_grown) (by omega)) (by simp; omega)).mono ?_
  rw [Hn.out]
  rintro e v1 ⟨rfl, hb1⟩
  have sz1 : w.heap.size + 1 ≤ v1.heap.size := by have hh := hb1.size; simp at hh; omega
  have st1 : Below w.heap.size w v1 := Below.trans (by go_grown) (hb1.mono (by simp))
  have c1_0 : v1.cell? ⟨w.heap.size, 0, none⟩ = some (.int .i64 N) := by rw [(bcell hb1).1 _ _ (by simp)]; first | (rw [new_at (by simp)]; rfl) | simp
  have c1_1 : v1.cell? ⟨w.heap.size, 1, none⟩ = some (.slice ad n cp) := by rw [(bcell hb1).1 _ _ (by simp)]; first | (rw [new_at (by simp)]; rfl) | simp
  have B1 : Hid (Below w.heap.size w v1) := st1
  have R1_0 : Hid (Row 3 v1 (lo) (hi) (.slice ad n cp) n (flat L)) := HR.out.below st1 (by omega)
  have d1_0 : w.heap.size < v1.heap.size := by omega
  have e1_0 : w.heap.size ≠ v1.heap.size := by omega
  clear st1 HR hb1
  go_wp2_with fail
  go_ret
  refine ⟨.slice none 0 0, rfl, ?_⟩
  rw [e0.out]
  exact (SSx.nil _ _).base B1.out

set_option maxRecDepth 100000 in
set_option maxHeartbeats 2400000 in
theorem iht_no1 (N : Int) (lo hi n : Nat) (v : Value) (L : List Ed) (x : Int) (w : World) (hL : L.length = n) (hr : Row 3 w lo hi v n (flat L)) (hh : hi ≤ w.heap.size) (hn : gok N L = true ∧ ndB N x = false) :
    Calls Try.prog 34 #[.agg #[.int .i64 N, v], .int .i64 x] w (HtPost N L x w) := by
  have HR := Lib.hid hr
  have Hn := Lib.hid hn
  have e0 : Hid (htN N L x = 0) := by show _ = _; unfold htN; rw [if_neg (fun h => by rw [h.2] at hn; cases hn.2)]
  obtain ⟨ad, cp, rfl⟩ := hr.slice
  clear hr hn
  go_enter Try.func34, Try.ntmps34
  go_wp2_with fail
  go_at_call 75
  refine (igok_any N lo hi n _ L _ hL (HR.out.below (B := w.heap.size) (by go_grown) (by omega)) (by simp; omega)).mono ?_
  rw [Hn.out.1]
  rintro e v1 ⟨rfl, hb1⟩
  have sz1 : w.heap.size + 1 ≤ v1.heap.size := by have hh := hb1.size; simp at hh; omega
  have st1 : Below w.heap.size w v1 := Below.trans (by go_grown) (hb1.mono (by simp))
  have c1_0 : v1.cell? ⟨w.heap.size, 0, none⟩ = some (.int .i64 N) := by rw [(bcell hb1).1 _ _ (by simp)]; first | (rw [new_at (by simp)]; rfl) | simp
  have c1_1 : v1.cell? ⟨w.heap.size, 1, none⟩ = some (.slice ad n cp) := by rw [(bcell hb1).1 _ _ (by simp)]; first | (rw [new_at (by simp)]; rfl) | simp
  have B1 : Hid (Below w.heap.size w v1) := st1
  have R1_0 : Hid (Row 3 v1 (lo) (hi) (.slice ad n cp) n (flat L)) := HR.out.below st1 (by omega)
  have d1_0 : w.heap.size < v1.heap.size := by omega
  have e1_0 : w.heap.size ≠ v1.heap.size := by omega
  clear st1 HR hb1
  go_wp2_with fail
  go_at_call 66
  refine (hasNode_any N _ _ _ x _).mono ?_
  rw [Hn.out.2]
  rintro e v2 ⟨rfl, hb2⟩
  have sz2 : v1.heap.size ≤ v2.heap.size := hb2.size
  have st2 : Below v1.heap.size v1 v2 := hb2
  have c2_0 : v2.cell? ⟨w.heap.size, 0, none⟩ = some (.int .i64 N) := by rw [(bcell st2).1 _ _ (by omega)]; exact c1_0
  have c2_1 : v2.cell? ⟨w.heap.size, 1, none⟩ = some (.slice ad n cp) := by rw [(bcell st2).1 _ _ (by omega)]; exact c1_1
  have B2 : Hid (Below w.heap.size w v2) := B1.out.trans (st2.mono (by omega))
  have R2_0 : Hid (Row 3 v2 (lo) (hi) (.slice ad n cp) n (flat L)) := R1_0.out.below st2 (by omega)
  have d2_0 : w.heap.size < v2.heap.size := by omega
  have e2_0 : w.heap.size ≠ v2.heap.size := by omega
  clear d1_0 e1_0 c1_0 c1_1 B1 st2 R1_0 hb2
  go_wp2_with fail
  go_ret
  refine ⟨.slice none 0 0, rfl, ?_⟩
  rw [e0.out]
  exact (SSx.nil _ _).base B2.out

set_option maxRecDepth 100000 in
set_option maxHeartbeats 2400000 in
theorem sht_no0 (N : Int) (lo hi n : Nat) (v : Value) (L : List Ed) (x : Int) (w : World) (hL : L.length = n) (hr : Row 3 w lo hi v n (flat L)) (hh : hi ≤ w.heap.size) (hn : gok N L = false) :
    Calls Try.prog 33 #[.agg #[.int .i64 N, v], .int .i64 x] w (HtPost N L x w) := by
  have HR := Lib.hid hr
  have Hn := Lib.hid hn
  have e0 : Hid (htN N L x = 0) := by show _ = _; unfold htN; rw [if_neg (fun h => by rw [h.1] at hn; cases hn)]
  obtain ⟨ad, cp, rfl⟩ := hr.slice
  clear hr hn
  go_enter Try.func33, Try.ntmps33
  go_wp2_with fail
  go_at_call 72
  refine (sgok_any N lo hi n _ L _ hL (HR.out.below (B := w.heap.size) (by go_grown) (by omega)) (by simp; omega)).mono ?_
  rw [Hn.out]
  rintro e v1 ⟨rfl, hb1⟩
  have sz1 : w.heap.size + 2 ≤ v1.heap.size := by have hh := hb1.size; simp at hh; omega
  have st1 : Below w.heap.size w v1 := Below.trans (by go_grown) (hb1.mono (by simp <;> omega))
  have c1_0 : v1.cell? ⟨w.heap.size, 0, none⟩ = some (.int .i64 N) := by rw [(bcell hb1).1 _ _ (by simp <;> omega), old_box (by simp <;> omega)]; first | (rw [new_at (by simp)]; rfl) | simp
  have c1_1 : v1.cell? ⟨w.heap.size, 1, none⟩ = some (.slice ad n cp) := by rw [(bcell hb1).1 _ _ (by simp <;> omega), old_box (by simp <;> omega)]; first | (rw [new_at (by simp)]; rfl) | simp
  have B1 : Hid (Below w.heap.size w v1) := st1
  have R1_0 : Hid (Row 3 v1 (lo) (hi) (.slice ad n cp) n (flat L)) := HR.out.below st1 (by omega)
  have d1_0 : w.heap.size < v1.heap.size := by omega
  have e1_0 : w.heap.size ≠ v1.heap.size := by omega
  clear st1 HR hb1
  go_wp2_with fail
  go_ret
  refine ⟨.slice none 0 0, rfl, ?_⟩
  rw [e0.out]
  exact (SSx.nil _ _).base B1.out

set_option maxRecDepth 100000 in
set_option maxHeartbeats 2400000 in
theorem sht_no1 (N : Int) (lo hi n : Nat) (v : Value) (L : List Ed) (x : Int) (w : World) (hL : L.length = n) (hr : Row 3 w lo hi v n (flat L)) (hh : hi ≤ w.heap.size) (hn : gok N L = true ∧ ndB N x = false) :
    Calls Try.prog 33 #[.agg #[.int .i64 N, v], .int .i64 x] w (HtPost N L x w) := by
  have HR := Lib.hid hr
  have Hn := Lib.hid hn
  have e0 : Hid (htN N L x = 0) := by show _ = _; unfold htN; rw [if_neg (fun h => by rw [h.2] at hn; cases hn.2)]
  obtain ⟨ad, cp, rfl⟩ := hr.slice
  clear hr hn
  have hN1 := (gok_parts Hn.out.1).1
  have hN2 := (gok_parts Hn.out.1).2.1
  go_enter Try.func33, Try.ntmps33
  go_wp2_with fail
  go_at_call 72
  refine (sgok_any N lo hi n _ L _ hL (HR.out.below (B := w.heap.size) (by go_grown) (by omega)) (by simp; omega)).mono ?_
  rw [Hn.out.1]
  rintro e v1 ⟨rfl, hb1⟩
  have sz1 : w.heap.size + 2 ≤ v1.heap.size := by have hh := hb1.size; simp at hh; omega
  have st1 : Below w.heap.size w v1 := Below.trans (by go_grown) (hb1.mono (by simp <;> omega))
  have c1_0 : v1.cell? ⟨w.heap.size, 0, none⟩ = some (.int .i64 N) := by rw [(bcell hb1).1 _ _ (by simp <;> omega), old_box (by simp <;> omega)]; first | (rw [new_at (by simp)]; rfl) | simp
  have c1_1 : v1.cell? ⟨w.heap.size, 1, none⟩ = some (.slice ad n cp) := by rw [(bcell hb1).1 _ _ (by simp <;> omega), old_box (by simp <;> omega)]; first | (rw [new_at (by simp)]; rfl) | simp
  have B1 : Hid (Below w.heap.size w v1) := st1
  have R1_0 : Hid (Row 3 v1 (lo) (hi) (.slice ad n cp) n (flat L)) := HR.out.below st1 (by omega)
  have d1_0 : w.heap.size < v1.heap.size := by omega
  have e1_0 : w.heap.size ≠ v1.heap.size := by omega
  clear st1 HR hb1
  go_wp2_with fail
  go_at_call 73
  refine (node_any N _ _ _ x _ hN1 hN2).mono ?_
  rw [Hn.out.2]
  rintro e v2 ⟨rfl, hb2⟩
  have sz2 : v1.heap.size ≤ v2.heap.size := hb2.size
  have st2 : Below v1.heap.size v1 v2 := hb2
  have c2_0 : v2.cell? ⟨w.heap.size, 0, none⟩ = some (.int .i64 N) := by rw [(bcell st2).1 _ _ (by omega)]; exact c1_0
  have c2_1 : v2.cell? ⟨w.heap.size, 1, none⟩ = some (.slice ad n cp) := by rw [(bcell st2).1 _ _ (by omega)]; exact c1_1
  have B2 : Hid (Below w.heap.size w v2) := B1.out.trans (st2.mono (by omega))
  have R2_0 : Hid (Row 3 v2 (lo) (hi) (.slice ad n cp) n (flat L)) := R1_0.out.below st2 (by omega)
  have d2_0 : w.heap.size < v2.heap.size := by omega
  have e2_0 : w.heap.size ≠ v2.heap.size := by omega
  clear d1_0 e1_0 c1_0 c1_1 B1 st2 R1_0 hb2
  go_wp2_with fail
  go_ret
  refine ⟨.slice none 0 0, rfl, ?_⟩
  rw [e0.out]
  exact (SSx.nil _ _).base B2.out

set_option maxRecDepth 100000 in
set_option maxHeartbeats 4000000 in
theorem iht_yes (M : Nat) (lo hi n : Nat) (v : Value) (L : List Ed) (s : Nat) (w : World) (hL : L.length = n) (hr : Row 3 w lo hi v n (flat L)) (hh : hi ≤ w.heap.size) (hG : gok (M : Int) L = true) (hs : s < M) :
    Calls Try.prog 34 #[.agg #[.int .i64 (M : Int), v], .int .i64 (s : Int)] w (HtPost (M : Int) L (s : Int) w) := by
  have HR := Lib.hid hr
  have HG := Lib.hid hG
  have HL := Lib.hid hL
  have hN1 := (gok_parts hG).1
  have hN2 := (gok_parts hG).2.1
  have hns : ndB (M : Int) (s : Int) = true := by unfold ndB; rw [inB_iff]; omega
  have Hns := Lib.hid hns
  obtain ⟨ad, cp, rfl⟩ := hr.slice
  obtain ⟨iS, hi, hz0, hz1, hz2⟩ := info_parts Try.info33
  have I := Lib.hid (And.intro hi (And.intro hz0 (And.intro hz1 hz2)))
  clear hr hi hz0 hz1 hz2 hG
  go_enter Try.func34, Try.ntmps34
  go_wp2_with fail
  go_at_call 75
  refine (igok_any (M : Int) lo hi n _ L _ hL (HR.out.below (B := w.heap.size) (by go_grown) (by omega)) (by simp; omega)).mono ?_
  rw [HG.out]
  rintro e v1 ⟨rfl, hb1⟩
  have sz1 : w.heap.size + 1 ≤ v1.heap.size := by have hh := hb1.size; simp at hh; omega
  have st1 : Below w.heap.size w v1 := Below.trans (by go_grown) (hb1.mono (by simp))
  have c1_0 : v1.cell? ⟨w.heap.size, 0, none⟩ = some (.int .i64 (M : Int)) := by rw [(bcell hb1).1 _ _ (by simp)]; first | (rw [new_at (by simp)]; rfl) | simp
  have c1_1 : v1.cell? ⟨w.heap.size, 1, none⟩ = some (.slice ad n cp) := by rw [(bcell hb1).1 _ _ (by simp)]; first | (rw [new_at (by simp)]; rfl) | simp
  have B1 : Hid (Below w.heap.size w v1) := st1
  have R1_0 : Hid (Row 3 v1 (lo) (hi) (.slice ad n cp) n (flat L)) := HR.out.below st1 (by omega)
  have d1_0 : w.heap.size < v1.heap.size := by omega
  have e1_0 : w.heap.size ≠ v1.heap.size := by omega
  clear st1 HR hb1
  go_wp2_with fail
  go_at_call 66
  refine (hasNode_any (M : Int) _ _ _ (s : Int) _).mono ?_
  rw [hns]
  rintro e v2 ⟨rfl, hb2⟩
  have sz2 : v1.heap.size ≤ v2.heap.size := hb2.size
  have st2 : Below v1.heap.size v1 v2 := hb2
  have c2_0 : v2.cell? ⟨w.heap.size, 0, none⟩ = some (.int .i64 (M : Int)) := by rw [(bcell st2).1 _ _ (by omega)]; exact c1_0
  have c2_1 : v2.cell? ⟨w.heap.size, 1, none⟩ = some (.slice ad n cp) := by rw [(bcell st2).1 _ _ (by omega)]; exact c1_1
  have B2 : Hid (Below w.heap.size w v2) := B1.out.trans (st2.mono (by omega))
  have R2_0 : Hid (Row 3 v2 (lo) (hi) (.slice ad n cp) n (flat L)) := R1_0.out.below st2 (by omega)
  have d2_0 : w.heap.size < v2.heap.size := by omega
  have e2_0 : w.heap.size ≠ v2.heap.size := by omega
  clear d1_0 e1_0 c1_0 c1_1 B1 st2 R1_0 hb2
  clear hns
  go_wp2_with fail
  go_at_call 76
  refine (hopsets_any M lo hi n _ L s _ HL.out R2_0.out (by omega) HG.out hs).mono ?_
  rintro e v4 ⟨⟨mp, rfl, q, bs, hbs, hS⟩, hb4⟩
  have K4 : v4.cell? ⟨w.heap.size, 0, none⟩ = some (.int .i64 (M : Int)) := by rw [hb4.cell (p := ⟨w.heap.size, 0, none⟩) d2_0]; exact c2_0
  have hw4 := hb4.size
  obtain ⟨bx, hbx⟩ : ∃ q, q = v4.heap.size := ⟨_, rfl⟩
  obtain ⟨wb, hwb⟩ : ∃ q, q = (v4.alloc (.cells #[.map none, .map none, .map none, .map none, .map none, .map none, .map none, .map none, .map none, .map none] 81)).setRow v4.heap.size (mapsA mp) := ⟨_, rfl⟩
  obtain ⟨bb, hsb, hbb⟩ := maps_laid v4 mp hwb
  have k0 : wb.cell? ⟨w.heap.size, 0, none⟩ = some (.int .i64 (M : Int)) := by rw [bb.cell (p := ⟨w.heap.size, 0, none⟩) (blk_lt K4)]; exact K4
  have HS := Lib.hid (hS.below bb)
  have HB : Hid (Below w.heap.size w wb) := B2.out.trans ((hb4.mono (by omega)).trans (bb.mono (by omega)))
  have HC : Hid (∀ i, i < 10 → wb.cell? ⟨bx, i, none⟩ = some (.map (some (mp i)))) := fun i hi => by
    rw [hbx, cell_of_row wb _ _ _ _ _ hbb]
    have : i = 0 ∨ i = 1 ∨ i = 2 ∨ i = 3 ∨ i = 4 ∨ i = 5 ∨ i = 6 ∨ i = 7 ∨ i = 8 ∨ i = 9 := by omega
    rcases this with rfl | rfl | rfl | rfl | rfl | rfl | rfl | rfl | rfl | rfl <;> rfl
  have hbxl : bx < wb.heap.size := by omega
  have HO : Hid (SSx wb wb (.slice none 0 0) 0 (htZ (M : Int) L (s : Int))) := SSx.nil _ _
  have hwvb : w.heap.size ≤ wb.heap.size := HB.out.size
  have Hwb := Lib.hid hwb
  have Hbx := Lib.hid hbx
  clear hwb hbx hS bb hsb hbb K4 hb4 c2_0 c2_1 B2 R2_0 d2_0 e2_0
  go_wp2_with (refine wpList_store_rowTo rfl 81 _ _ rfl rfl v4.heap.size (mapsA mp) rfl rfl 81 nilA (heap_alloc_new _ _) (by rw [Try.size81]; rfl) rfl (mapsA_one mp) ?_; rw [← Hwb.out])
  rw [← Hbx.out]
  clear Hwb Hbx
  go_wp2_with fail
  go_loopw [6, 22] (fun v i wr => ∃ k : Nat, k ≤ M ∧ i = .int .i64 (k : Int) ∧ Hid (SSx wb wr v k (htZ (M : Int) L (s : Int)))) (fun _ i _ => M - (intOf i).toNat)
  case atStart => exact ⟨0, Nat.zero_le _, rfl, HO⟩
  case round =>
      obtain ⟨k, hk, rfl, hR⟩ := hrel
      obtain ⟨vs, bs, hS⟩ := hR.out
      obtain ⟨oa, oc, ho⟩ := own_slice hS.row
      subst ho
      have hsz := hS.below.size
      have HSW := Lib.hid (HS.out.kept (r := none) ⟨hS.below.os, hS.below.tape, hS.below.output, hS.below.size, fun j hj _ => hS.below.block j hj⟩ (by simp) (fun _ _ => by simp))
      have HBw := Lib.hid hS.below
      have HSets := HSW
      clear HSW
      have HS := Lib.hid hR.out
      clear hS hR
      by_cases hlt : k < M
      · have q0 : (k : Int) < (M : Int) := by omega
        have q1 : (k : Int) < 10 := by omega
        have q2 : (0 : Int) ≤ (k : Int) := by omega
        have z0 : wr.cell? ⟨bx, k, none⟩ = some (.map (some (mp k))) := by rw [HBw.out.cell (p := ⟨bx, k, none⟩) hbxl]; exact HC.out k (by omega)
        go_wp2_with fail
        go_at_call 77
        refine (sorted_any (mp k) q _ _ (HSets.out.set k (by omega))).mono ?_
        rintro e w2 ⟨dv, rfl, hrd, hb2⟩
        rw [← htZ_at HG.out Hns.out hlt] at hrd
        have hdz : Hid (Row 1 w2 wr.heap.size w2.heap.size dv (htZ (M : Int) L (s : Int) k).length (htZ (M : Int) L (s : Int) k)) := hrd
        obtain ⟨m, hm⟩ : ∃ m, m = (htZ (M : Int) L (s : Int) k).length := ⟨_, rfl⟩
        rw [← hm] at hrd
        have Hm := Lib.hid hm
        obtain ⟨da, dc, hd⟩ := hrd.slice
        subst hd
        clear hm
        have HB2 := Lib.hid hb2
        have hs2 := hb2.size
        obtain ⟨vs, bs, hS⟩ := HS.out
        have Hw := Lib.hid (hS.grow hb2).row
        have HSt := Lib.hid hS
        clear hrd hb2 hS z0 HBw HSets
        go_wp2_with (at_builtin; refine wpList_append_lies _ rfl _ _ 47 rfl wb.heap.size 33 iS (.slice none 0 0) 1 24 Try.underlying47 I.out.1 I.out.2.1 I.out.2.2.1 I.out.2.2.2 rfl (by decide) _ k ((List.range k).map vs) rfl (Hw.out.alloc _) ⟨w2.heap.size, 0, none⟩ 1 1 [.slice da m dc] rfl rfl ?d0 (slice_one _ _ _) (by decide) ?d1 ?d2 ?d3 _ rfl ?_)
        case d0 => exact fun j u hj => cell_one_new _ _ 33 rfl j u hj
        case d1 => unfold maxLen; omega
        case d2 => omega
        case d3 => simp; omega
        intro g4 cap4 w4 hown4 hgrow4 hat4 hlt4
        have HE : Hid (SSx wb w4 (.slice (some ⟨g4, 0, none⟩) (k + 1) cap4) (k + 1) (htZ (M : Int) L (s : Int))) :=
          HSt.out.app HB2.out hdz.out ((Below.refl _ _).alloc (Nat.le_refl _) (.cells #[.slice da m dc] 33)) hgrow4 rfl (hat4.imp id (fun e => by rw [e]; simp)) hown4
        clear hown4 hgrow4 hat4 hlt4 Hw HS HB2 hdz HSt
        go_wp2_with fail
        go_roundw
        case rel => exact ⟨k + 1, by omega, by go_num, HE⟩
        case measure => simp [intOf]; omega
      · obtain rfl : M = k := by omega
        have hge : ¬ ((M : Int) < (M : Int)) := by omega
        go_wp2_with fail
        refine bodyPost_ret (v := .slice oa M oc) (by simp [results, Try.results34, go_sem]) rfl ⟨_, rfl, ?_⟩
        rw [htN_yes HG.out Hns.out]
        exact HS.out.base HB.out
  

set_option maxRecDepth 100000 in
set_option maxHeartbeats 4000000 in
theorem sht_yes (M : Nat) (lo hi n : Nat) (v : Value) (L : List Ed) (s : Nat) (w : World) (hL : L.length = n) (hr : Row 3 w lo hi v n (flat L)) (hh : hi ≤ w.heap.size) (hG : gok (M : Int) L = true) (hs : s < M) :
    Calls Try.prog 33 #[.agg #[.int .i64 (M : Int), v], .int .i64 (s : Int)] w (HtPost (M : Int) L (s : Int) w) := by
  have HR := Lib.hid hr
  have HG := Lib.hid hG
  have HL := Lib.hid hL
  have hN1 := (gok_parts hG).1
  have hN2 := (gok_parts hG).2.1
  have hns : ndB (M : Int) (s : Int) = true := by unfold ndB; rw [inB_iff]; omega
  have Hns := Lib.hid hns
  obtain ⟨ad, cp, rfl⟩ := hr.slice
  obtain ⟨iS, hi, hz0, hz1, hz2⟩ := info_parts Try.info33
  have I := Lib.hid (And.intro hi (And.intro hz0 (And.intro hz1 hz2)))
  clear hr hi hz0 hz1 hz2 hG
  go_enter Try.func33, Try.ntmps33
  go_wp2_with fail
  obtain ⟨v0, hv0⟩ : ∃ v0, v0 = w.alloc (.cells #[.int .i64 (M : Int), .slice ad n cp] 29) := ⟨_, rfl⟩
  have hv0s : v0.heap.size = w.heap.size + 1 := by rw [hv0]; simp
  have hwv : w.heap.size < v0.heap.size := by omega
  have K0 : Hid (v0.cell? ⟨w.heap.size, 0, none⟩ = some (.int .i64 (M : Int))) := by rw [hv0]; show _ = _; simp
  have K1 : Hid (v0.cell? ⟨w.heap.size, 1, none⟩ = some (.slice ad n cp)) := by rw [hv0]; show _ = _; simp
  have HB : Hid (Below w.heap.size w v0) := by rw [hv0]; show Below _ _ _; go_grown
  have RB : Hid (Row 3 v0 lo hi (.slice ad n cp) n (flat L)) := HR.out.below HB.out (by omega)
  obtain ⟨v1, hv1⟩ : ∃ v1, v1 = v0.alloc (.cells #[] 33) := ⟨_, rfl⟩
  have HO : Hid (SSx v0 v1 (.slice (some ⟨v0.heap.size, 0, none⟩) 0 0) 0 (htZ (M : Int) L (s : Int))) := by rw [hv1]; exact Lib.hid (SSx.lit0 v0 _)
  have hb01 : Below v0.heap.size v0 v1 := by rw [hv1]; exact (Below.refl _ _).alloc (Nat.le_refl _) _
  rw [← hv0]
  rw [← hv1]
  rw [hv0s] at HO
  have HV := Lib.hid hv0s
  have k0 : v1.cell? ⟨w.heap.size, 0, none⟩ = some (.int .i64 (M : Int)) := by rw [hb01.cell (p := ⟨w.heap.size, 0, none⟩) hwv]; exact K0.out
  have k1 : v1.cell? ⟨w.heap.size, 1, none⟩ = some (.slice ad n cp) := by rw [hb01.cell (p := ⟨w.heap.size, 1, none⟩) hwv]; exact K1.out
  have hs1 := hb01.size
  have hwv1 : w.heap.size < v1.heap.size := by omega
  have HR1 : Hid (Row 3 v1 lo hi (.slice ad n cp) n (flat L)) := RB.out.below hb01 (by rw [HV.out]; omega)
  have hh1 : hi ≤ v1.heap.size := by rw [HV.out] at hs1; omega
  clear hv0 hv1 HR hv0s hb01
  go_at_call 72
  refine (sgok_any (M : Int) lo hi n _ L _ hL HR1.out hh1).mono ?_
  rw [HG.out]
  rintro e v2 ⟨rfl, hb2⟩
  have k0 : v2.cell? ⟨w.heap.size, 0, none⟩ = some (.int .i64 (M : Int)) := by rw [hb2.cell (p := ⟨w.heap.size, 0, none⟩) hwv1]; exact k0
  have k1 : v2.cell? ⟨w.heap.size, 1, none⟩ = some (.slice ad n cp) := by rw [hb2.cell (p := ⟨w.heap.size, 1, none⟩) hwv1]; exact k1
  have HO2 := Lib.hid (HO.out.grow hb2)
  clear hb2 HO HR1 hh1
  go_wp2_with fail
  go_at_call 73
  refine (node_any (M : Int) _ _ _ (s : Int) _ hN1 hN2).mono ?_
  rw [hns]
  rintro e v3 ⟨rfl, hb3⟩
  have HO3 := Lib.hid (HO2.out.grow hb3)
  clear hb3 HO2 k0 k1 hns hs1
  go_wp2_with fail
  go_loopw [5, 6] (fun v i wr => ∃ k : Nat, k ≤ M ∧ i = .int .i64 (k : Int) ∧ Hid (SSx v0 wr v k (htZ (M : Int) L (s : Int)))) (fun _ i _ => M - (intOf i).toNat)
  case atStart => exact ⟨0, Nat.zero_le _, rfl, HO3⟩
  case round =>
      obtain ⟨k, hk, rfl, hR⟩ := hrel
      obtain ⟨vs, bs, hS⟩ := hR.out
      obtain ⟨oa, oc, ho⟩ := own_slice hS.row
      subst ho
      have hsz := hS.below.size
      have k0 : wr.cell? ⟨w.heap.size, 0, none⟩ = some (.int .i64 (M : Int)) := by rw [hS.below.cell (p := ⟨w.heap.size, 0, none⟩) hwv]; exact K0.out
      have k1 : wr.cell? ⟨w.heap.size, 1, none⟩ = some (.slice ad n cp) := by rw [hS.below.cell (p := ⟨w.heap.size, 1, none⟩) hwv]; exact K1.out
      have HRw : Hid (Row 3 wr lo hi (.slice ad n cp) n (flat L)) := RB.out.below hS.below (by rw [HV.out]; omega)
      have hhw : hi ≤ wr.heap.size := by rw [HV.out] at hsz; omega
      have HS := Lib.hid hR.out
      clear hS hR
      by_cases hlt : k < M
      · have q0 : (k : Int) < (M : Int) := by omega
        go_wp2_with fail
        go_at_call 74
        refine (shop_any (M : Int) lo hi n _ L (s : Int) (k : Int) _ hL HRw.out hhw).mono ?_
        rintro e w2 ⟨dv, rfl, hrd, hb2⟩
        change Row 1 w2 _ _ dv (htZ (M : Int) L (s : Int) k).length (htZ (M : Int) L (s : Int) k) at hrd
        have hdz : Hid (Row 1 w2 wr.heap.size w2.heap.size dv (htZ (M : Int) L (s : Int) k).length (htZ (M : Int) L (s : Int) k)) := hrd
        obtain ⟨m, hm⟩ : ∃ m, m = (htZ (M : Int) L (s : Int) k).length := ⟨_, rfl⟩
        rw [← hm] at hrd
        have Hm := Lib.hid hm
        obtain ⟨da, dc, hd⟩ := hrd.slice
        subst hd
        clear hm
        have HB2 := Lib.hid hb2
        have hs2 := hb2.size
        obtain ⟨vs, bs, hS⟩ := HS.out
        have Hw := Lib.hid (hS.grow hb2).row
        have HSt := Lib.hid hS
        clear hrd hb2 hS k0 k1 HRw hhw
        go_wp2_with (at_builtin; refine wpList_append_lies _ rfl _ _ 47 rfl v0.heap.size 33 iS (.slice none 0 0) 1 24 Try.underlying47 I.out.1 I.out.2.1 I.out.2.2.1 I.out.2.2.2 rfl (by decide) _ k ((List.range k).map vs) rfl (Hw.out.alloc _) ⟨w2.heap.size, 0, none⟩ 1 1 [.slice da m dc] rfl rfl ?d0 (slice_one _ _ _) (by decide) ?d1 ?d2 ?d3 _ rfl ?_)
        case d0 => exact fun j u hj => cell_one_new _ _ 33 rfl j u hj
        case d1 => unfold maxLen; omega
        case d2 => omega
        case d3 => simp; omega
        intro g4 cap4 w4 hown4 hgrow4 hat4 hlt4
        have HE : Hid (SSx v0 w4 (.slice (some ⟨g4, 0, none⟩) (k + 1) cap4) (k + 1) (htZ (M : Int) L (s : Int))) :=
          HSt.out.app HB2.out hdz.out ((Below.refl _ _).alloc (Nat.le_refl _) (.cells #[.slice da m dc] 33)) hgrow4 rfl (hat4.imp id (fun e => by rw [e]; simp)) hown4
        clear hown4 hgrow4 hat4 hlt4 Hw HS HB2 hdz HSt
        go_wp2_with fail
        go_roundw
        case rel => exact ⟨k + 1, by omega, by go_num, HE⟩
        case measure => simp [intOf]; omega
      · obtain rfl : M = k := by omega
        have hge : ¬ ((M : Int) < (M : Int)) := by omega
        go_wp2_with fail
        refine bodyPost_ret (v := .slice oa M oc) (by simp [results, Try.results33, go_sem]) rfl ⟨_, rfl, ?_⟩
        rw [htN_yes HG.out Hns.out]
        exact HS.out.base HB.out
  

theorem iht_any (N : Int) (lo hi n : Nat) (v : Value) (L : List Ed) (x : Int) (w : World) (hL : L.length = n) (hr : Row 3 w lo hi v n (flat L)) (hh : hi ≤ w.heap.size) :
    Calls Try.prog 34 #[.agg #[.int .i64 N, v], .int .i64 x] w (HtPost N L x w) := by
  by_cases hG : gok N L = true
  · have hN := gok_parts hG
    by_cases hx : ndB N x = true
    · obtain ⟨M, rfl⟩ : ∃ M : Nat, N = (M : Int) := ⟨N.toNat, by omega⟩
      unfold ndB at hx
      rw [inB_iff] at hx
      obtain ⟨s, rfl⟩ : ∃ s : Nat, x = (s : Int) := ⟨x.toNat, by omega⟩
      exact iht_yes M lo hi n v L s w hL hr hh hG (by omega)
    · exact iht_no1 N lo hi n v L x w hL hr hh ⟨hG, by simpa using hx⟩
  · exact iht_no0 N lo hi n v L x w hL hr hh (by simpa using hG)

theorem sht_any (N : Int) (lo hi n : Nat) (v : Value) (L : List Ed) (x : Int) (w : World) (hL : L.length = n) (hr : Row 3 w lo hi v n (flat L)) (hh : hi ≤ w.heap.size) :
    Calls Try.prog 33 #[.agg #[.int .i64 N, v], .int .i64 x] w (HtPost N L x w) := by
  by_cases hG : gok N L = true
  · have hN := gok_parts hG
    by_cases hx : ndB N x = true
    · obtain ⟨M, rfl⟩ : ∃ M : Nat, N = (M : Int) := ⟨N.toNat, by omega⟩
      unfold ndB at hx
      rw [inB_iff] at hx
      obtain ⟨s, rfl⟩ : ∃ s : Nat, x = (s : Int) := ⟨x.toNat, by omega⟩
      exact sht_yes M lo hi n v L s w hL hr hh hG (by omega)
    · exact sht_no1 N lo hi n v L x w hL hr hh ⟨hG, by simpa using hx⟩
  · exact sht_no0 N lo hi n v L x w hL hr hh (by simpa using hG)

end Go.Proofs.Ytnpdbieadjgghaa
