/- BothWays of the model as a contract; what both refuse. -/
import Derived.Test.YtkkfgnnhdcmmjabQg
namespace Go.Proofs.Ytkkfgnnhdcmmjab
open Go.RowKit


theorem Row.set2 {w w0 : World} {lo hi n : Nat} {v : Value} {Z : List Int} (h : Row 3 w lo hi v n Z) {R : Nat} (hR : R < lo ∨ hi ≤ R) (x y : Value) (hlo : w0.heap.size ≤ lo) (hhi : hi ≤ w.heap.size) : Row 3 ((w.setCell ⟨R, 0, none⟩ x).setCell ⟨R, 1, none⟩ y) w0.heap.size ((w.setCell ⟨R, 0, none⟩ x).setCell ⟨R, 1, none⟩ y).heap.size v n Z :=
  ((h.setCell hR x).setCell hR y).wide hlo (by simp [World.setCell]; exact hhi)
theorem set2_0 {w : World} {R : Nat} {u x y : Value} (h : w.cell? ⟨R, 0, none⟩ = some u) : ((w.setCell ⟨R, 0, none⟩ x).setCell ⟨R, 1, none⟩ y).cell? ⟨R, 0, none⟩ = some x := by
  rw [World.cell?_setCell_other _ _ _ _ (by simp)]
  exact World.cell?_setCell_same' _ _ _ (by rw [h]; rfl)
theorem set2_1 {w : World} {R : Nat} {u x y : Value} (h : w.cell? ⟨R, 1, none⟩ = some u) : ((w.setCell ⟨R, 0, none⟩ x).setCell ⟨R, 1, none⟩ y).cell? ⟨R, 1, none⟩ = some y :=
  World.cell?_setCell_same' _ _ _ (by rw [World.cell?_setCell_other _ _ _ _ (by simp), h]; rfl)

set_option maxRecDepth 100000 in
set_option maxHeartbeats 4000000 in
theorem sbw_no (N : Int) (lo hi n : Nat) (v : Value) (L : List Ed) (w : World) (hL : L.length = n) (hr : Row 3 w lo hi v n (flat L)) (hh : hi ≤ w.heap.size) (hG : gok N L = false) :
    Calls Try.prog 24 #[.agg #[.int .i64 N, v]] w fun e w' => ∃ rv, e = .returned (.tuple #[.agg #[.int .i64 0, rv], .bool false]) ∧ Row 3 w' w.heap.size w'.heap.size rv 0 (flat []) ∧ Below w.heap.size w w' := by
  have HR := Lib.hid hr
  obtain ⟨ad, cp, rfl⟩ := hr.slice
  clear hr
  go_enter Try.func24, Try.ntmps24
  go_wp2_with fail
  go_at_call 10
  refine (sgok_any N lo hi n _ L _ hL (HR.out.below (B := w.heap.size) (by go_grown) (by omega)) (by simp; omega)).mono ?_
  rw [hG]
  rintro e v1 ⟨rfl, hb1⟩
  have sz1 : w.heap.size + 2 ≤ v1.heap.size := by have hh := hb1.size; simp at hh; omega
  have st1 : Below w.heap.size w v1 := Below.trans (by go_grown) (hb1.mono (by simp; omega))
  have c1_0 : v1.cell? ⟨w.heap.size, 0, none⟩ = some (.int .i64 N) := by rw [(bcell hb1).1 _ _ (by simp; omega), old_box (by simp)]; simp
  have c1_1 : v1.cell? ⟨w.heap.size, 1, none⟩ = some (.slice ad n cp) := by rw [(bcell hb1).1 _ _ (by simp; omega), old_box (by simp)]; simp
  have c1_2 : v1.cell? ⟨w.heap.size + 1, 0, none⟩ = some (.int .i64 0) := by rw [(bcell hb1).1 _ _ (by simp)]; simp
  have c1_3 : v1.cell? ⟨w.heap.size + 1, 1, none⟩ = some (.slice none 0 0) := by rw [(bcell hb1).1 _ _ (by simp)]; simp
  have g1_0 : v1.frozen? ⟨w.heap.size + 1, 0, none⟩ = false := by rw [(bcell hb1).2 _ _ (by simp)]; simp [go_sem]
  have g1_1 : v1.frozen? ⟨w.heap.size + 1, 1, none⟩ = false := by rw [(bcell hb1).2 _ _ (by simp)]; simp [go_sem]
  have B1 : Hid (Below w.heap.size w v1) := st1
  have R1_0 : Hid (Row 3 v1 (lo) (hi) (.slice ad n cp) n (flat L)) := HR.out.below st1 (by omega)
  have d1_0 : w.heap.size < v1.heap.size := by omega
  have e1_0 : w.heap.size ≠ v1.heap.size := by omega
  have d1_1 : w.heap.size + 1 < v1.heap.size := by omega
  have e1_1 : w.heap.size + 1 ≠ v1.heap.size := by omega
  clear st1 HR hb1
  have r0 := set2_0 (x := .int .i64 0) (y := .slice none 0 0) c1_2
  have r1 := set2_1 (x := .int .i64 0) (y := .slice none 0 0) c1_3
  go_wp2_with fail
  refine bodyPost_ret (v := .tuple #[.agg #[.int .i64 0, .slice none 0 0], .bool false]) (by simp [results, Try.results24, go_sem, r0, r1]) rfl ⟨_, rfl, Row.empty _ _ _ _ _ _, ?_⟩
  exact (B1.out.setCell (by show _ ≤ w.heap.size + 1; omega) _).setCell (by show _ ≤ w.heap.size + 1; omega) _

set_option maxRecDepth 100000 in
set_option maxHeartbeats 4000000 in
theorem ibw_no (N : Int) (lo hi n : Nat) (v : Value) (L : List Ed) (w : World) (hL : L.length = n) (hr : Row 3 w lo hi v n (flat L)) (hh : hi ≤ w.heap.size) (hG : gok N L = false) :
    Calls Try.prog 25 #[.agg #[.int .i64 N, v]] w fun e w' => ∃ rv, e = .returned (.tuple #[.agg #[.int .i64 0, rv], .bool false]) ∧ Row 3 w' w.heap.size w'.heap.size rv 0 (flat []) ∧ Below w.heap.size w w' := by
  have HR := Lib.hid hr
  obtain ⟨ad, cp, rfl⟩ := hr.slice
  clear hr
  go_enter Try.func25, Try.ntmps25
  go_wp2_with fail
  go_at_call 12
  refine (igok_any N lo hi n _ L _ hL (HR.out.below (B := w.heap.size) (by go_grown) (by omega)) (by simp; omega)).mono ?_
  rw [hG]
  rintro e v1 ⟨rfl, hb1⟩
  have sz1 : w.heap.size + 2 ≤ v1.heap.size := by have hh := hb1.size; simp at hh; omega
  have st1 : Below w.heap.size w v1 := Below.trans (by go_grown) (hb1.mono (by simp; omega))
  have c1_0 : v1.cell? ⟨w.heap.size, 0, none⟩ = some (.int .i64 N) := by rw [(bcell hb1).1 _ _ (by simp; omega), old_box (by simp)]; simp
  have c1_1 : v1.cell? ⟨w.heap.size, 1, none⟩ = some (.slice ad n cp) := by rw [(bcell hb1).1 _ _ (by simp; omega), old_box (by simp)]; simp
  have c1_2 : v1.cell? ⟨w.heap.size + 1, 0, none⟩ = some (.int .i64 0) := by rw [(bcell hb1).1 _ _ (by simp)]; simp
  have c1_3 : v1.cell? ⟨w.heap.size + 1, 1, none⟩ = some (.slice none 0 0) := by rw [(bcell hb1).1 _ _ (by simp)]; simp
  have g1_0 : v1.frozen? ⟨w.heap.size + 1, 0, none⟩ = false := by rw [(bcell hb1).2 _ _ (by simp)]; simp [go_sem]
  have g1_1 : v1.frozen? ⟨w.heap.size + 1, 1, none⟩ = false := by rw [(bcell hb1).2 _ _ (by simp)]; simp [go_sem]
  have B1 : Hid (Below w.heap.size w v1) := st1
  have R1_0 : Hid (Row 3 v1 (lo) (hi) (.slice ad n cp) n (flat L)) := HR.out.below st1 (by omega)
  have d1_0 : w.heap.size < v1.heap.size := by omega
  have e1_0 : w.heap.size ≠ v1.heap.size := by omega
  have d1_1 : w.heap.size + 1 < v1.heap.size := by omega
  have e1_1 : w.heap.size + 1 ≠ v1.heap.size := by omega
  clear st1 HR hb1
  have r0 := set2_0 (x := .int .i64 0) (y := .slice none 0 0) c1_2
  have r1 := set2_1 (x := .int .i64 0) (y := .slice none 0 0) c1_3
  go_wp2_with fail
  refine bodyPost_ret (v := .tuple #[.agg #[.int .i64 0, .slice none 0 0], .bool false]) (by simp [results, Try.results25, go_sem, r0, r1]) rfl ⟨_, rfl, Row.empty _ _ _ _ _ _, ?_⟩
  exact (B1.out.setCell (by show _ ≤ w.heap.size + 1; omega) _).setCell (by show _ ≤ w.heap.size + 1; omega) _

set_option maxRecDepth 100000 in
set_option maxHeartbeats 4000000 in
theorem sbw_yes (N : Int) (lo hi n : Nat) (v : Value) (L : List Ed) (w : World) (hL : L.length = n) (hr : Row 3 w lo hi v n (flat L)) (hh : hi ≤ w.heap.size) (hG : gok N L = true) :
    Calls Try.prog 24 #[.agg #[.int .i64 N, v]] w fun e w' => ∃ rv, e = .returned (.tuple #[.agg #[.int .i64 N, rv], .bool true]) ∧ Row 3 w' w.heap.size w'.heap.size rv (L.filter (bwP L)).length (flat (L.filter (bwP L))) ∧ Below w.heap.size w w' := by
  have HR := Lib.hid hr
  have HR0 := HR
  have HG := Lib.hid hG
  have HL := Lib.hid hL
  have hN1 := (gok_parts hG).1
  have hN2 := (gok_parts hG).2.1
  have h60 : n ≤ 60 := by have := (gok_parts hG).2.2.1; omega
  obtain ⟨ad, cp, rfl, _, hc⟩ := hr.opened
  have HC := Lib.hid hc
  obtain ⟨i59, hi, hz0, hz1, hz2⟩ := info_parts Try.info56
  have I := Lib.hid (And.intro hi (And.intro hz0 (And.intro hz1 hz2)))
  clear hr hc hi hz0 hz1 hz2
  go_enter Try.func24, Try.ntmps24
  go_wp2_with fail
  go_at_call 10
  refine (sgok_any N lo hi n _ L _ hL (HR.out.below (B := w.heap.size) (by go_grown) (by omega)) (by simp; omega)).mono ?_
  rw [hG]
  rintro e v1 ⟨rfl, hb1⟩
  have sz1 : w.heap.size + 2 ≤ v1.heap.size := by have hh := hb1.size; simp at hh; omega
  have st1 : Below w.heap.size w v1 := Below.trans (by go_grown) (hb1.mono (by simp; omega))
  have c1_0 : v1.cell? ⟨w.heap.size, 0, none⟩ = some (.int .i64 N) := by rw [(bcell hb1).1 _ _ (by simp; omega), old_box (by simp)]; simp
  have c1_1 : v1.cell? ⟨w.heap.size, 1, none⟩ = some (.slice ad n cp) := by rw [(bcell hb1).1 _ _ (by simp; omega), old_box (by simp)]; simp
  have c1_2 : v1.cell? ⟨w.heap.size + 1, 0, none⟩ = some (.int .i64 0) := by rw [(bcell hb1).1 _ _ (by simp)]; simp
  have c1_3 : v1.cell? ⟨w.heap.size + 1, 1, none⟩ = some (.slice none 0 0) := by rw [(bcell hb1).1 _ _ (by simp)]; simp
  have g1_0 : v1.frozen? ⟨w.heap.size + 1, 0, none⟩ = false := by rw [(bcell hb1).2 _ _ (by simp)]; simp [go_sem]
  have g1_1 : v1.frozen? ⟨w.heap.size + 1, 1, none⟩ = false := by rw [(bcell hb1).2 _ _ (by simp)]; simp [go_sem]
  have B1 : Hid (Below w.heap.size w v1) := st1
  have R1_0 : Hid (Row 3 v1 (lo) (hi) (.slice ad n cp) n (flat L)) := HR.out.below st1 (by omega)
  have d1_0 : w.heap.size < v1.heap.size := by omega
  have e1_0 : w.heap.size ≠ v1.heap.size := by omega
  have d1_1 : w.heap.size + 1 < v1.heap.size := by omega
  have e1_1 : w.heap.size + 1 ≠ v1.heap.size := by omega
  clear st1 HR hb1
  go_wp2_with fail
  have x0 : (v1.alloc (.cells #[.int .i64 N, .slice none 0 0] 29)).cell? ⟨w.heap.size, 0, none⟩ = some (.int .i64 N) := by rw [old_box (by omega)]; exact c1_0
  have x1 : (v1.alloc (.cells #[.int .i64 N, .slice none 0 0] 29)).cell? ⟨w.heap.size, 1, none⟩ = some (.slice ad n cp) := by rw [old_box (by omega)]; exact c1_1
  have y0 : (v1.alloc (.cells #[.int .i64 N, .slice none 0 0] 29)).cell? ⟨w.heap.size + 1, 0, none⟩ = some (.int .i64 0) := by rw [old_box (by omega)]; exact c1_2
  have y1 : (v1.alloc (.cells #[.int .i64 N, .slice none 0 0] 29)).cell? ⟨w.heap.size + 1, 1, none⟩ = some (.slice none 0 0) := by rw [old_box (by omega)]; exact c1_3
  have y2 : (v1.alloc (.cells #[.int .i64 N, .slice none 0 0] 29)).frozen? ⟨w.heap.size + 1, 0, none⟩ = false := by rw [((Below.refl v1.heap.size v1).alloc (Nat.le_refl _) _).frozen (p := ⟨w.heap.size + 1, 0, none⟩) (by show w.heap.size + 1 < _; omega)]; exact g1_0
  have y3 : (v1.alloc (.cells #[.int .i64 N, .slice none 0 0] 29)).frozen? ⟨w.heap.size + 1, 1, none⟩ = false := by rw [((Below.refl v1.heap.size v1).alloc (Nat.le_refl _) _).frozen (p := ⟨w.heap.size + 1, 1, none⟩) (by show w.heap.size + 1 < _; omega)]; exact g1_1
  have HO : Hid (OutG (v1.alloc (.cells #[.int .i64 N, .slice none 0 0] 29)) (v1.alloc (.cells #[.int .i64 N, .slice none 0 0] 29)) v1.heap.size N []) := OutG.start (by simp) (by simp [go_sem]) (by simp) (by simp)
  have HB : Hid (Below w.heap.size w (v1.alloc (.cells #[.int .i64 N, .slice none 0 0] 29))) := B1.out.alloc (by omega) _
  have hs3 : (v1.alloc (.cells #[.int .i64 N, .slice none 0 0] 29)).heap.size = v1.heap.size + 1 := by simp
  generalize v1.alloc (.cells #[.int .i64 N, .slice none 0 0] 29) = w3 at *
  obtain ⟨X, hX⟩ : ∃ X, X = v1.heap.size := ⟨_, rfl⟩
  obtain ⟨R, hR⟩ : ∃ R, R = w.heap.size + 1 := ⟨_, rfl⟩
  rw [← hX] at HO ⊢
  rw [← hR] at y0 y1 y2 y3 ⊢
  have n1 : w.heap.size < R := by omega
  have n2 : R < X := by omega
  have n3 : R ≠ X := by omega
  have n4 : X < w3.heap.size := by omega
  have n5 : w.heap.size < X := by omega
  clear hX hR hs3 c1_0 c1_1 c1_2 c1_3 g1_0 g1_1 d1_0 e1_0 d1_1 e1_1 B1 sz1
  go_loopw [5] (fun i wr => ∃ k : Nat, k ≤ n ∧ i = .int .i64 (k : Int) ∧ Hid (OutG w3 wr X N ((L.take k).filter (bwP L)))) (fun i _ => n - (intOf i).toNat)
  case atStart => exact ⟨0, Nat.zero_le _, rfl, HO⟩
  case round =>
    obtain ⟨k, hk, rfl, hR⟩ := hrel
    have hBw : Below w.heap.size w wr := HB.out.trans (hR.out.1.mono (by omega))
    have HBw := Lib.hid hBw
    have k0 : wr.cell? ⟨w.heap.size, 0, none⟩ = some (.int .i64 N) := by rw [hR.out.1.cell (p := ⟨w.heap.size, 0, none⟩) n5]; exact x0
    have k1 : wr.cell? ⟨w.heap.size, 1, none⟩ = some (.slice ad n cp) := by rw [hR.out.1.cell (p := ⟨w.heap.size, 1, none⟩) n5]; exact x1
    have hXl := hR.out.size
    by_cases hlt : k < n
    · obtain ⟨g, rfl, hg, hcell⟩ := HC.out (by omega)
      obtain ⟨r, hrk⟩ : ∃ r, L[k]? = some r := ⟨L[k]'(by rw [HL.out]; exact hlt), List.getElem?_eq_getElem _⟩
      have hm := gok_mem HG.out (List.mem_of_getElem? hrk)
      obtain ⟨a, b, c⟩ := r
      obtain ⟨r0, r1, r2⟩ := flat_at L k _ hrk
      have z0 : wr.cell? ⟨g, k * 3, none⟩ = some (.int .i64 a) := by rw [hBw.cell (p := ⟨g, k * 3, none⟩) (by show g < _; omega)]; exact hcell _ _ r0
      have z1 : wr.cell? ⟨g, k * 3 + 1, none⟩ = some (.int .i64 b) := by rw [hBw.cell (p := ⟨g, k * 3 + 1, none⟩) (by show g < _; omega)]; exact hcell _ _ r1
      have z2 : wr.cell? ⟨g, k * 3 + 2, none⟩ = some (.int .i64 c) := by rw [hBw.cell (p := ⟨g, k * 3 + 2, none⟩) (by show g < _; omega)]; exact hcell _ _ r2
      have hgl : g < wr.heap.size := by omega
      have hwl : w.heap.size < wr.heap.size := by omega
      have hgX : g < X := by omega
      have Hf := Lib.hid (filter_snoc (P := bwP L) hrk)
      have hsc : Hid (scost N L b a = cst L b a) := by
        show scost N L b a = _
        have ha : ndB N a = true := by unfold ndB; exact inB_true hm.1.1 (by have h' : a < N := hm.1.2; omega)
        have hb : ndB N b = true := by unfold ndB; exact inB_true hm.2.1.1 (by have h' : b < N := hm.2.1.2; omega)
        unfold scost; rw [if_pos ⟨hb, ha⟩, if_neg (fun e => hm.2.2.1 e.symm)]
      have q0 : (0 : Int) ≤ (k : Int) := by omega
      have q1 : (k : Int) < (n : Int) := by omega
      clear r0 r1 r2 hrk hcell hm hBw
      go_wp2_with fail
      go_region_held3 (fun w' => w'.cell? ⟨w.heap.size, 0, none⟩ = some (.int .i64 N) ∧ w'.cell? ⟨w.heap.size, 1, none⟩ = some (.slice (some ⟨g, 0, none⟩) n cp) ∧ w'.cell? ⟨g, k * 3, none⟩ = some (.int .i64 a) ∧ w'.cell? ⟨g, k * 3 + 1, none⟩ = some (.int .i64 b) ∧ wr.heap.size ≤ w'.heap.size ∧ Below wr.heap.size wr w') (first | assumption | exact rr4_start k0 k1 z0 z1 | exact rr4_drew (by assumption) | exact rr4_keep (by omega) (by omega) (by omega) (by omega) (by assumption) (by assumption))
        (first | (go_at_call 38; refine (scost_any N lo hi n _ L b a _ HG.out HL.out (HR0.out.below (HBw.out.trans ((rr4_out (by assumption)).2.mono (by omega))) hh) (by have hq := (rr4_out (by assumption)).1; omega)).mono ?_; rintro e w2 ⟨rfl, hb⟩))
      have hE : wr.heap.size ≤ w2.heap.size ∧ Below wr.heap.size wr w2 := rr4_out (by assumption)
      have hR2 := Lib.hid (hR.out.below hE.2)
      have j0 : w2.cell? ⟨w.heap.size, 0, none⟩ = some (.int .i64 N) := by rw [hE.2.cell (p := ⟨w.heap.size, 0, none⟩) hwl]; exact k0
      have j1 : w2.cell? ⟨w.heap.size, 1, none⟩ = some (.slice (some ⟨g, 0, none⟩) n cp) := by rw [hE.2.cell (p := ⟨w.heap.size, 1, none⟩) hwl]; exact k1
      have u0 : w2.cell? ⟨g, k * 3, none⟩ = some (.int .i64 a) := by rw [hE.2.cell (p := ⟨g, k * 3, none⟩) hgl]; exact z0
      have u1 : w2.cell? ⟨g, k * 3 + 1, none⟩ = some (.int .i64 b) := by rw [hE.2.cell (p := ⟨g, k * 3 + 1, none⟩) hgl]; exact z1
      have u2 : w2.cell? ⟨g, k * 3 + 2, none⟩ = some (.int .i64 c) := by rw [hE.2.cell (p := ⟨g, k * 3 + 2, none⟩) hgl]; exact z2
      have hX2 := hR2.out.size
      have hw2 : w.heap.size < w2.heap.size := by omega
      have hg2 : g < w2.heap.size := by omega
      rw [hsc.out]
      obtain ⟨q, hq⟩ : ∃ q, q = cst L b a := ⟨_, rfl⟩
      rw [← hq]
      have Hq := Lib.hid hq
      clear hq k0 k1 z0 z1 z2 hE hR hwl hgl hXl
      by_cases hP : q < 1000000
      · have HP : Hid (bwP L (a, b, c) = true) := by show decide (cst L b a < 1000000) = true; rw [← Hq.out]; exact decide_eq_true hP
        rw [HP.out, if_pos rfl] at Hf
        obtain ⟨rv, hrv, hown⟩ := hR2.out.2.2.2.2
        obtain ⟨ra, rc, hra⟩ := own_slice hown
        subst hra
        have hfX := hR2.out.2.2.1
        have hll := filter_len (bwP L) L k
        have Hw := Lib.hid hown
        obtain ⟨m, hm⟩ : ∃ m, m = ((L.take k).filter (bwP L)).length := ⟨_, rfl⟩
        rw [← hm] at hrv hll Hw
        have Hm := Lib.hid hm
        clear hm hown
        go_wp2_with fail
        go_region_law (first
          | (refine step_append_lies _ rfl _ _ 27 rfl (X + 1) 56 i59 (.agg #[.int .i64 0, .int .i64 0, .int .i64 0]) 3 24 Try.underlying27 I.out.1 I.out.2.1 I.out.2.2.1 I.out.2.2.2 rfl (by decide) _ m (ints (flat ((L.take k).filter (bwP L)))) rfl (Hw.out.drew.alloc _) ⟨w2.heap.size, 0, none⟩ 1 1 [.int .i64 a, .int .i64 b, .int .i64 c] rfl rfl (fun j u hj => cell_three_new w2.drew (.int .i64 a) (.int .i64 b) (.int .i64 c) 56 j u hj) (three_one _ _ _) (by decide) (by unfold maxLen; omega) (by omega) (by simp; omega) _ rfl ?_; intro g4 cap4 w4 hown4 hgrow4 hat4 hlt4; obtain ⟨⟨uu, hc4⟩, hf4, hF4⟩ := OutG.app hR2.out.drew (by rw [← Hm.out]; exact Hw.out.drew) hgrow4 (show m + 1 = ((L.take k).filter (bwP L)).length + 1 by rw [Hm.out]) hown4; have HF := Lib.hid hF4; clear hF4 hown4 hgrow4 hat4 hlt4))
        all_goals
          go_wp2_with fail
          go_roundw
          case rel => exact ⟨k + 1, by omega, by go_num, by rw [Hf.out]; exact HF.out⟩
          case measure => simp [intOf]; omega
      · have HP : Hid (bwP L (a, b, c) = false) := by show decide (cst L b a < 1000000) = false; rw [← Hq.out]; exact decide_eq_false hP
        rw [HP.out, if_neg (by decide), List.append_nil] at Hf
        go_wp2_with fail
        go_roundw
        case rel => exact ⟨k + 1, by omega, by go_num, by rw [Hf.out]; exact hR2.out⟩
        case measure => simp [intOf]; omega
    · have hge : ¬ ((k : Int) < (n : Int)) := by omega
      obtain rfl : k = n := by omega
      have ht : L.take k = L := List.take_of_length_le (by rw [HL.out]; exact Nat.le_refl _)
      rw [ht] at hR
      obtain ⟨_, _, _, o0, rv, hrv, hown⟩ := hR.out
      obtain ⟨ra, rc, hra⟩ := own_slice hown
      subst hra
      have hrow := row_of_own hown (by have := List.length_filter_le (bwP L) L; omega)
      have b0 : wr.cell? ⟨R, 0, none⟩ = some (.int .i64 0) := by rw [hR.out.1.cell (p := ⟨R, 0, none⟩) n2]; exact y0
      have b1 : wr.cell? ⟨R, 1, none⟩ = some (.slice none 0 0) := by rw [hR.out.1.cell (p := ⟨R, 1, none⟩) n2]; exact y1
      have b2 : wr.frozen? ⟨R, 0, none⟩ = false := by rw [hR.out.1.frozen (p := ⟨R, 0, none⟩) n2]; exact y2
      have b3 : wr.frozen? ⟨R, 1, none⟩ = false := by rw [hR.out.1.frozen (p := ⟨R, 1, none⟩) n2]; exact y3
      obtain ⟨m, hm⟩ : ∃ m, m = (L.filter (bwP L)).length := ⟨_, rfl⟩
      rw [← hm] at hrv hrow
      have Hm := Lib.hid hm
      have Hrow := Lib.hid (Row.set2 (w0 := w) hrow (R := R) (.inl (by omega)) (.int .i64 N) (.slice ra m rc) (by omega) (Nat.le_refl _))
      have r0 := set2_0 (x := .int .i64 N) (y := .slice ra m rc) b0
      have r1 := set2_1 (x := .int .i64 N) (y := .slice ra m rc) b1
      clear hown hrow ht hm
      go_wp2_with fail
      refine bodyPost_ret (v := .tuple #[.agg #[.int .i64 N, .slice ra m rc], .bool true]) (by simp [results, Try.results24, go_sem, r0, r1]) rfl ⟨_, rfl, by rw [← Hm.out]; exact Hrow.out, ?_⟩
      exact (HBw.out.setCell (by show _ ≤ R; omega) _).setCell (by show _ ≤ R; omega) _

end Go.Proofs.Ytkkfgnnhdcmmjab
