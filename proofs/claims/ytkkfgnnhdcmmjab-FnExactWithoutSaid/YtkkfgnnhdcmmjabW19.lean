/- Without: the program. -/
import Derived.Test.YtkkfgnnhdcmmjabW18
namespace Go.Proofs.Ytkkfgnnhdcmmjab
open Go.RowKit


set_option maxRecDepth 100000 in
set_option maxHeartbeats 2000000 in
theorem delete_nil (p q : Nat) (x y : Int) (w : World) (hp : p < w.heap.size) (hq : q < w.heap.size) (h0 : w.cell? ⟨p, 0, none⟩ = some (.int .i64 x)) (h1 : w.cell? ⟨q, 0, none⟩ = some (.int .i64 y)) :
    Calls Try.prog 43 #[.slice none 0 0, .func (.func 44) #[] #[.pointer (some ⟨p, 0, none⟩), .pointer (some ⟨q, 0, none⟩)]] w fun e w' => e = .returned (.slice none 0 0) ∧ Below w.heap.size w w' := by
  go_enter Try.func43, Try.ntmps43
  go_wp2_with fail
  go_at_call 59
  refine (index_any p q 0 none 0 [] x y w hp hq h0 h1 rfl (by omega) (fun h => absurd h (Nat.lt_irrefl _))).mono ?_
  rintro e w1 ⟨r, rfl, hI, hb⟩
  rcases hI with ⟨rfl, _⟩ | ⟨i, _, hil, _⟩
  · go_wp2_with fail
    go_ret
    exact ⟨rfl, hb⟩
  · exact absurd hil (Nat.not_lt_zero _)

set_option maxRecDepth 100000 in
set_option maxHeartbeats 4000000 in
theorem iwo_yes (N : Int) (lo hi n : Nat) (v : Value) (L : List Ed) (x y : Int) (w : World) (hL : L.length = n) (hn : n ≤ 1048576) (hr : Row 3 w lo hi v n (flat L)) (hh : hi ≤ w.heap.size) (hG : gok N L = true) :
    Calls Try.prog 21 #[.agg #[.int .i64 N, v], .int .i64 x, .int .i64 y] w (WPost N L x y w) := by
  have HR := Lib.hid hr
  obtain ⟨ad, cp, rfl⟩ := hr.slice
  clear hr
  have hmf : ∀ (fn : Fn) (first cap : Array Value) (w : World), (Instr.makeFunc fn first cap).run Try.prog w = .ok (.func fn first cap) w := fun _ _ _ _ => rfl
  go_enter Try.func21, Try.ntmps21
  go_wp2_with fail
  go_at_call 42
  refine (copy_any N lo hi n _ L _ hL (HR.out.below (B := w.heap.size) (by go_grown) (by omega)) (by simp; omega) hn).mono ?_
  rintro e v1 ⟨rv, rfl, hcr, hb1⟩
  have sz1 : w.heap.size + 4 ≤ v1.heap.size := by have hh := hb1.size; simp at hh; omega
  have st1 : Below w.heap.size w v1 := Below.trans (by go_grown) (hb1.mono (by simp <;> omega))
  have c1_0 : v1.cell? ⟨w.heap.size, 0, none⟩ = some (.int .i64 N) := by rw [(bcell hb1).1 _ _ (by simp <;> omega), old_box (by simp <;> omega), old_box (by simp <;> omega), old_box (by simp <;> omega)]; first | (rw [new_at (by simp)]; rfl) | simp
  have c1_1 : v1.cell? ⟨w.heap.size, 1, none⟩ = some (.slice ad n cp) := by rw [(bcell hb1).1 _ _ (by simp <;> omega), old_box (by simp <;> omega), old_box (by simp <;> omega), old_box (by simp <;> omega)]; first | (rw [new_at (by simp)]; rfl) | simp
  have c1_2 : v1.cell? ⟨w.heap.size + 1, 0, none⟩ = some (.int .i64 x) := by rw [(bcell hb1).1 _ _ (by simp <;> omega), old_box (by simp <;> omega), old_box (by simp <;> omega)]; first | (rw [new_at (by simp)]; rfl) | simp
  have c1_3 : v1.cell? ⟨w.heap.size + 1 + 1, 0, none⟩ = some (.int .i64 y) := by rw [(bcell hb1).1 _ _ (by simp <;> omega), old_box (by simp <;> omega)]; first | (rw [new_at (by simp)]; rfl) | simp
  have c1_4 : v1.cell? ⟨w.heap.size + 1 + 1 + 1, 0, none⟩ = some (.int .i64 0) := by rw [(bcell hb1).1 _ _ (by simp)]; first | (rw [new_at (by simp)]; rfl) | simp
  have c1_5 : v1.cell? ⟨w.heap.size + 1 + 1 + 1, 1, none⟩ = some (.slice none 0 0) := by rw [(bcell hb1).1 _ _ (by simp)]; first | (rw [new_at (by simp)]; rfl) | simp
  have g1_0 : v1.frozen? ⟨w.heap.size + 1 + 1 + 1, 0, none⟩ = false := by rw [(bcell hb1).2 _ _ (by simp), new_frz (by simp)]
  have g1_1 : v1.frozen? ⟨w.heap.size + 1 + 1 + 1, 1, none⟩ = false := by rw [(bcell hb1).2 _ _ (by simp), new_frz (by simp)]
  have B1 : Hid (Below w.heap.size w v1) := st1
  have R1_0 : Hid (Row 3 v1 (lo) (hi) (.slice ad n cp) n (flat L)) := HR.out.below st1 (by omega)
  have d1_0 : w.heap.size < v1.heap.size := by omega
  have e1_0 : w.heap.size ≠ v1.heap.size := by omega
  have d1_1 : w.heap.size + 1 < v1.heap.size := by omega
  have e1_1 : w.heap.size + 1 ≠ v1.heap.size := by omega
  have d1_2 : w.heap.size + 1 + 1 < v1.heap.size := by omega
  have e1_2 : w.heap.size + 1 + 1 ≠ v1.heap.size := by omega
  have d1_3 : w.heap.size + 1 + 1 + 1 < v1.heap.size := by omega
  have e1_3 : w.heap.size + 1 + 1 + 1 ≠ v1.heap.size := by omega
  clear st1 HR hb1
  rcases hcr with ⟨h0, rfl⟩ | ⟨g, cap, rfl, hc1, hc2, hc3, hc4, hc5⟩
  · have H0 := Lib.hid h0
    clear h0
    go_wp2_with fail
    go_at_call 12
    refine (igok_any N lo hi n _ L _ hL (R1_0.out.below (B := v1.heap.size) (by go_grown) (by omega)) (by simp; omega)).mono ?_
    rw [hG]
    rintro e v2 ⟨rfl, hb2⟩
    have sz2 : v1.heap.size + 1 ≤ v2.heap.size := by have hh := hb2.size; simp at hh; omega
    have st2 : Below v1.heap.size v1 v2 := Below.trans (by go_grown) (hb2.mono (by simp))
    have c2_0 : v2.cell? ⟨w.heap.size, 0, none⟩ = some (.int .i64 N) := by rw [(bcell st2).1 _ _ (by omega)]; exact c1_0
    have c2_1 : v2.cell? ⟨w.heap.size, 1, none⟩ = some (.slice ad n cp) := by rw [(bcell st2).1 _ _ (by omega)]; exact c1_1
    have c2_2 : v2.cell? ⟨w.heap.size + 1, 0, none⟩ = some (.int .i64 x) := by rw [(bcell st2).1 _ _ (by omega)]; exact c1_2
    have c2_3 : v2.cell? ⟨w.heap.size + 1 + 1, 0, none⟩ = some (.int .i64 y) := by rw [(bcell st2).1 _ _ (by omega)]; exact c1_3
    have c2_4 : v2.cell? ⟨w.heap.size + 1 + 1 + 1, 0, none⟩ = some (.int .i64 0) := by rw [(bcell st2).1 _ _ (by omega)]; exact c1_4
    have c2_5 : v2.cell? ⟨w.heap.size + 1 + 1 + 1, 1, none⟩ = some (.slice none 0 0) := by rw [(bcell st2).1 _ _ (by omega)]; exact c1_5
    have c2_6 : v2.cell? ⟨v1.heap.size, 0, none⟩ = some (.int .i64 N) := by rw [(bcell hb2).1 _ _ (by simp)]; first | (rw [new_at (by simp)]; rfl) | simp
    have c2_7 : v2.cell? ⟨v1.heap.size, 1, none⟩ = some (.slice none 0 0) := by rw [(bcell hb2).1 _ _ (by simp)]; first | (rw [new_at (by simp)]; rfl) | simp
    have g2_0 : v2.frozen? ⟨w.heap.size + 1 + 1 + 1, 0, none⟩ = false := by rw [(bcell st2).2 _ _ (by omega)]; exact g1_0
    have g2_1 : v2.frozen? ⟨w.heap.size + 1 + 1 + 1, 1, none⟩ = false := by rw [(bcell st2).2 _ _ (by omega)]; exact g1_1
    have g2_2 : v2.frozen? ⟨v1.heap.size, 0, none⟩ = false := by rw [(bcell hb2).2 _ _ (by simp), new_frz (by simp)]
    have g2_3 : v2.frozen? ⟨v1.heap.size, 1, none⟩ = false := by rw [(bcell hb2).2 _ _ (by simp), new_frz (by simp)]
    have B2 : Hid (Below w.heap.size w v2) := B1.out.trans (st2.mono (by omega))
    have R2_0 : Hid (Row 3 v2 (lo) (hi) (.slice ad n cp) n (flat L)) := R1_0.out.below st2 (by omega)
    have d2_0 : w.heap.size < v2.heap.size := by omega
    have e2_0 : w.heap.size ≠ v2.heap.size := by omega
    have d2_1 : w.heap.size + 1 < v2.heap.size := by omega
    have e2_1 : w.heap.size + 1 ≠ v2.heap.size := by omega
    have d2_2 : w.heap.size + 1 + 1 < v2.heap.size := by omega
    have e2_2 : w.heap.size + 1 + 1 ≠ v2.heap.size := by omega
    have d2_3 : w.heap.size + 1 + 1 + 1 < v2.heap.size := by omega
    have e2_3 : w.heap.size + 1 + 1 + 1 ≠ v2.heap.size := by omega
    have d2_4 : v1.heap.size < v2.heap.size := by omega
    have e2_4 : v1.heap.size ≠ v2.heap.size := by omega
    have ST2 := Lib.hid st2
    clear d1_0 e1_0 d1_1 e1_1 d1_2 e1_2 d1_3 e1_3 c1_0 c1_1 c1_2 c1_3 c1_4 c1_5 g1_0 g1_1 B1 st2 R1_0 hb2
    go_wp2_with fail
    go_at_call 43
    refine (delete_nil (w.heap.size + 1) (w.heap.size + 1 + 1) x y _ (by omega) (by omega) c2_2 c2_3).mono ?_
    rintro e v3 ⟨rfl, hb3⟩
    have sz3 : v2.heap.size ≤ v3.heap.size := hb3.size
    have st3 : Below v2.heap.size v2 v3 := hb3
    have c3_0 : v3.cell? ⟨w.heap.size, 0, none⟩ = some (.int .i64 N) := by rw [(bcell st3).1 _ _ (by omega)]; exact c2_0
    have c3_1 : v3.cell? ⟨w.heap.size, 1, none⟩ = some (.slice ad n cp) := by rw [(bcell st3).1 _ _ (by omega)]; exact c2_1
    have c3_2 : v3.cell? ⟨w.heap.size + 1, 0, none⟩ = some (.int .i64 x) := by rw [(bcell st3).1 _ _ (by omega)]; exact c2_2
    have c3_3 : v3.cell? ⟨w.heap.size + 1 + 1, 0, none⟩ = some (.int .i64 y) := by rw [(bcell st3).1 _ _ (by omega)]; exact c2_3
    have c3_4 : v3.cell? ⟨w.heap.size + 1 + 1 + 1, 0, none⟩ = some (.int .i64 0) := by rw [(bcell st3).1 _ _ (by omega)]; exact c2_4
    have c3_5 : v3.cell? ⟨w.heap.size + 1 + 1 + 1, 1, none⟩ = some (.slice none 0 0) := by rw [(bcell st3).1 _ _ (by omega)]; exact c2_5
    have c3_6 : v3.cell? ⟨v1.heap.size, 0, none⟩ = some (.int .i64 N) := by rw [(bcell st3).1 _ _ (by omega)]; exact c2_6
    have c3_7 : v3.cell? ⟨v1.heap.size, 1, none⟩ = some (.slice none 0 0) := by rw [(bcell st3).1 _ _ (by omega)]; exact c2_7
    have g3_0 : v3.frozen? ⟨w.heap.size + 1 + 1 + 1, 0, none⟩ = false := by rw [(bcell st3).2 _ _ (by omega)]; exact g2_0
    have g3_1 : v3.frozen? ⟨w.heap.size + 1 + 1 + 1, 1, none⟩ = false := by rw [(bcell st3).2 _ _ (by omega)]; exact g2_1
    have g3_2 : v3.frozen? ⟨v1.heap.size, 0, none⟩ = false := by rw [(bcell st3).2 _ _ (by omega)]; exact g2_2
    have g3_3 : v3.frozen? ⟨v1.heap.size, 1, none⟩ = false := by rw [(bcell st3).2 _ _ (by omega)]; exact g2_3
    have B3 : Hid (Below w.heap.size w v3) := B2.out.trans (st3.mono (by omega))
    have R3_0 : Hid (Row 3 v3 (lo) (hi) (.slice ad n cp) n (flat L)) := R2_0.out.below st3 (by omega)
    have d3_0 : w.heap.size < v3.heap.size := by omega
    have e3_0 : w.heap.size ≠ v3.heap.size := by omega
    have d3_1 : w.heap.size + 1 < v3.heap.size := by omega
    have e3_1 : w.heap.size + 1 ≠ v3.heap.size := by omega
    have d3_2 : w.heap.size + 1 + 1 < v3.heap.size := by omega
    have e3_2 : w.heap.size + 1 + 1 ≠ v3.heap.size := by omega
    have d3_3 : w.heap.size + 1 + 1 + 1 < v3.heap.size := by omega
    have e3_3 : w.heap.size + 1 + 1 + 1 ≠ v3.heap.size := by omega
    have d3_4 : v1.heap.size < v3.heap.size := by omega
    have e3_4 : v1.heap.size ≠ v3.heap.size := by omega
    have ST3 := Lib.hid st3
    clear d2_0 e2_0 d2_1 e2_1 d2_2 e2_2 d2_3 e2_3 d2_4 e2_4 c2_0 c2_1 c2_2 c2_3 c2_4 c2_5 c2_6 c2_7 g2_0 g2_1 g2_2 g2_3 B2 st3 R2_0 hb3
    have hl0 : L = [] := List.eq_nil_of_length_eq_zero (by rw [hL]; exact H0.out)
    have Hfl : Hid (wflag N L x y = false) := by show wflag N L x y = false; unfold wflag wkeep; rw [hl0]; simp
    have Hout := Lib.hid (wout_no Hfl.out)
    have Hl0 := Lib.hid hl0
    have hd : decide ((0 : Int) < (n : Int)) = false := decide_eq_false (by have := H0.out; omega)
    have hd2 : decide (0 < n) = false := decide_eq_false (by have := H0.out; omega)
    have hXR : v1.heap.size ≠ w.heap.size + 1 + 1 + 1 := by omega
    have r0 : (((v3.setCell ⟨v1.heap.size, 1, none⟩ (.slice none 0 0)).setCell ⟨w.heap.size + 1 + 1 + 1, 0, none⟩ (.int .i64 N)).setCell ⟨w.heap.size + 1 + 1 + 1, 1, none⟩ (.slice none 0 0)).cell? ⟨w.heap.size + 1 + 1 + 1, 0, none⟩ = some (.int .i64 N) := set2_0 (by rw [World.cell?_setCell_other _ _ _ _ (by simp <;> omega)]; exact c3_4)
    have r1 : (((v3.setCell ⟨v1.heap.size, 1, none⟩ (.slice none 0 0)).setCell ⟨w.heap.size + 1 + 1 + 1, 0, none⟩ (.int .i64 N)).setCell ⟨w.heap.size + 1 + 1 + 1, 1, none⟩ (.slice none 0 0)).cell? ⟨w.heap.size + 1 + 1 + 1, 1, none⟩ = some (.slice none 0 0) := set2_1 (by rw [World.cell?_setCell_other _ _ _ _ (by simp <;> omega)]; exact c3_5)
    clear hl0
    go_wp2_with fail
    go_region
    go_wp2_with fail
    refine bodyPost_ret (v := .tuple #[.agg #[.int .i64 N, .slice none 0 0], .bool false]) (by simp [results, Try.results21, go_sem, r0, r1]) rfl ⟨_, by rw [Hfl.out], ?_, ?_⟩
    · rw [Hout.out, Hl0.out]; exact Row.empty _ _ _ _ _ _
    · exact (((B3.out.setCell (by show _ ≤ v1.heap.size; omega) _).setCell (by show _ ≤ w.heap.size + 1 + 1 + 1; omega) _).setCell (by show _ ≤ w.heap.size + 1 + 1 + 1; omega) _).drew
  · go_wp2_with fail
    go_at_call 12
    refine (igok_any N lo hi n _ L _ hL (R1_0.out.below (B := v1.heap.size) (by go_grown) (by omega)) (by simp; omega)).mono ?_
    rw [hG]
    rintro e v2 ⟨rfl, hb2⟩
    have sz2 : v1.heap.size + 1 ≤ v2.heap.size := by have hh := hb2.size; simp at hh; omega
    have st2 : Below v1.heap.size v1 v2 := Below.trans (by go_grown) (hb2.mono (by simp))
    have c2_0 : v2.cell? ⟨w.heap.size, 0, none⟩ = some (.int .i64 N) := by rw [(bcell st2).1 _ _ (by omega)]; exact c1_0
    have c2_1 : v2.cell? ⟨w.heap.size, 1, none⟩ = some (.slice ad n cp) := by rw [(bcell st2).1 _ _ (by omega)]; exact c1_1
    have c2_2 : v2.cell? ⟨w.heap.size + 1, 0, none⟩ = some (.int .i64 x) := by rw [(bcell st2).1 _ _ (by omega)]; exact c1_2
    have c2_3 : v2.cell? ⟨w.heap.size + 1 + 1, 0, none⟩ = some (.int .i64 y) := by rw [(bcell st2).1 _ _ (by omega)]; exact c1_3
    have c2_4 : v2.cell? ⟨w.heap.size + 1 + 1 + 1, 0, none⟩ = some (.int .i64 0) := by rw [(bcell st2).1 _ _ (by omega)]; exact c1_4
    have c2_5 : v2.cell? ⟨w.heap.size + 1 + 1 + 1, 1, none⟩ = some (.slice none 0 0) := by rw [(bcell st2).1 _ _ (by omega)]; exact c1_5
    have c2_6 : v2.cell? ⟨v1.heap.size, 0, none⟩ = some (.int .i64 N) := by rw [(bcell hb2).1 _ _ (by simp)]; first | (rw [new_at (by simp)]; rfl) | simp
    have c2_7 : v2.cell? ⟨v1.heap.size, 1, none⟩ = some (.slice (some ⟨g, 0, none⟩) n cap) := by rw [(bcell hb2).1 _ _ (by simp)]; first | (rw [new_at (by simp)]; rfl) | simp
    have g2_0 : v2.frozen? ⟨w.heap.size + 1 + 1 + 1, 0, none⟩ = false := by rw [(bcell st2).2 _ _ (by omega)]; exact g1_0
    have g2_1 : v2.frozen? ⟨w.heap.size + 1 + 1 + 1, 1, none⟩ = false := by rw [(bcell st2).2 _ _ (by omega)]; exact g1_1
    have g2_2 : v2.frozen? ⟨v1.heap.size, 0, none⟩ = false := by rw [(bcell hb2).2 _ _ (by simp), new_frz (by simp)]
    have g2_3 : v2.frozen? ⟨v1.heap.size, 1, none⟩ = false := by rw [(bcell hb2).2 _ _ (by simp), new_frz (by simp)]
    have B2 : Hid (Below w.heap.size w v2) := B1.out.trans (st2.mono (by omega))
    have R2_0 : Hid (Row 3 v2 (lo) (hi) (.slice ad n cp) n (flat L)) := R1_0.out.below st2 (by omega)
    have d2_0 : w.heap.size < v2.heap.size := by omega
    have e2_0 : w.heap.size ≠ v2.heap.size := by omega
    have d2_1 : w.heap.size + 1 < v2.heap.size := by omega
    have e2_1 : w.heap.size + 1 ≠ v2.heap.size := by omega
    have d2_2 : w.heap.size + 1 + 1 < v2.heap.size := by omega
    have e2_2 : w.heap.size + 1 + 1 ≠ v2.heap.size := by omega
    have d2_3 : w.heap.size + 1 + 1 + 1 < v2.heap.size := by omega
    have e2_3 : w.heap.size + 1 + 1 + 1 ≠ v2.heap.size := by omega
    have d2_4 : v1.heap.size < v2.heap.size := by omega
    have e2_4 : v1.heap.size ≠ v2.heap.size := by omega
    have ST2 := Lib.hid st2
    clear d1_0 e1_0 d1_1 e1_1 d1_2 e1_2 d1_3 e1_3 c1_0 c1_1 c1_2 c1_3 c1_4 c1_5 g1_0 g1_1 B1 st2 R1_0 hb2
    simp at hc2
    have hgv : g < v2.heap.size := by omega
    have hgn : w.heap.size + 1 ≠ g ∧ w.heap.size + 1 + 1 ≠ g ∧ w.heap.size + 1 + 1 + 1 ≠ g ∧ v1.heap.size ≠ g ∧ w.heap.size ≠ g := by omega
    obtain ⟨gn1, gn2, gn3, gn4, gn5⟩ := hgn
    have HCc : Hid (∀ q z, (flat L)[q]? = some z → v2.cell? ⟨g, q, none⟩ = some (.int .i64 z)) := fun q z hz => by rw [ST2.out.cell (p := ⟨g, q, none⟩) hc3]; exact hc5 q z hz
    have HCf : Hid (∀ o, v2.frozen? ⟨g, o, none⟩ = false) := fun o => by rw [ST2.out.frozen (p := ⟨g, o, none⟩) hc3]; exact hc4 o
    clear hc4 hc5
    go_wp2_with fail
    go_at_call 43
    refine (delete_some (w.heap.size + 1) (w.heap.size + 1 + 1) g n cap L x y _ (by omega) (by omega) gn1 gn2 c2_2 c2_3 hL (by omega) hc1 hgv HCc.out HCf.out).mono ?_
    rintro e w3 ⟨rfl, hD⟩
    have HD := Lib.hid hD
    have hs3 := hD.1.2.2.2.1
    have j1 : w3.cell? ⟨w.heap.size, 1, none⟩ = some (.slice ad n cp) := by rw [hD.1.cell (by omega) gn5]; exact c2_1
    have y0 : w3.cell? ⟨w.heap.size + 1 + 1 + 1, 0, none⟩ = some (.int .i64 0) := by rw [hD.1.cell (by omega) gn3]; exact c2_4
    have y1 : w3.cell? ⟨w.heap.size + 1 + 1 + 1, 1, none⟩ = some (.slice none 0 0) := by rw [hD.1.cell (by omega) gn3]; exact c2_5
    have y2 : w3.frozen? ⟨w.heap.size + 1 + 1 + 1, 0, none⟩ = false := by rw [World.frozen?_of_block (w := v2) (a := ⟨w.heap.size + 1 + 1 + 1, 0, none⟩) (hD.1.2.2.2.2 _ (by show w.heap.size + 1 + 1 + 1 < _; omega) gn3)]; exact g2_0
    have y3 : w3.frozen? ⟨w.heap.size + 1 + 1 + 1, 1, none⟩ = false := by rw [World.frozen?_of_block (w := v2) (a := ⟨w.heap.size + 1 + 1 + 1, 1, none⟩) (hD.1.2.2.2.2 _ (by show w.heap.size + 1 + 1 + 1 < _; omega) gn3)]; exact g2_1
    have x0 : w3.cell? ⟨v1.heap.size, 0, none⟩ = some (.int .i64 N) := by rw [hD.1.cell (by omega) gn4]; exact c2_6
    have x1 : w3.cell? ⟨v1.heap.size, 1, none⟩ = some (.slice (some ⟨g, 0, none⟩) n cap) := by rw [hD.1.cell (by omega) gn4]; exact c2_7
    have x2 : w3.frozen? ⟨v1.heap.size, 1, none⟩ = false := by rw [World.frozen?_of_block (w := v2) (a := ⟨v1.heap.size, 1, none⟩) (hD.1.2.2.2.2 _ (by show v1.heap.size < _; omega) gn4)]; exact g2_3
    have HB3 : Hid (Below w.heap.size w w3) := B2.out.trans (hD.1.below (by omega) (by omega))
    have l0 : w.heap.size < w3.heap.size := by omega
    have l1 : w.heap.size + 1 + 1 + 1 < w3.heap.size := by omega
    have l2 : v1.heap.size < w3.heap.size := by omega
    have hXR : v1.heap.size ≠ w.heap.size + 1 + 1 + 1 := by omega
    have hXR2 : w.heap.size + 1 + 1 + 1 ≠ v1.heap.size := by omega
    have hXw : w.heap.size ≠ v1.heap.size := by omega
    have hRw : w.heap.size ≠ w.heap.size + 1 + 1 + 1 := by omega
    obtain ⟨m, hm⟩ : ∃ m, m = (L.filter (fun e => !jnB e.1 e.2.1 x y)).length := ⟨_, rfl⟩
    have hmn : m ≤ n := by rw [hm]; have := List.length_filter_le (fun e : Ed => !jnB e.1 e.2.1 x y) L; omega
    have Hm : Hid (m = (wkeep L x y).length) := hm
    rw [← hm]
    have r0 : (((w3.setCell ⟨v1.heap.size, 1, none⟩ (.slice (some ⟨g, 0, none⟩) m cap)).setCell ⟨w.heap.size + 1 + 1 + 1, 0, none⟩ (.int .i64 N)).setCell ⟨w.heap.size + 1 + 1 + 1, 1, none⟩ (.slice (some ⟨g, 0, none⟩) m cap)).cell? ⟨w.heap.size + 1 + 1 + 1, 0, none⟩ = some (.int .i64 N) := set2_0 (by rw [World.cell?_setCell_other _ _ _ _ (by simp <;> omega)]; exact y0)
    have r1 : (((w3.setCell ⟨v1.heap.size, 1, none⟩ (.slice (some ⟨g, 0, none⟩) m cap)).setCell ⟨w.heap.size + 1 + 1 + 1, 0, none⟩ (.int .i64 N)).setCell ⟨w.heap.size + 1 + 1 + 1, 1, none⟩ (.slice (some ⟨g, 0, none⟩) m cap)).cell? ⟨w.heap.size + 1 + 1 + 1, 1, none⟩ = some (.slice (some ⟨g, 0, none⟩) m cap) := set2_1 (by rw [World.cell?_setCell_other _ _ _ _ (by simp <;> omega)]; exact y1)
    have HRow : Hid (Row 3 (((w3.setCell ⟨v1.heap.size, 1, none⟩ (.slice (some ⟨g, 0, none⟩) m cap)).setCell ⟨w.heap.size + 1 + 1 + 1, 0, none⟩ (.int .i64 N)).setCell ⟨w.heap.size + 1 + 1 + 1, 1, none⟩ (.slice (some ⟨g, 0, none⟩) m cap)) w.heap.size (((w3.setCell ⟨v1.heap.size, 1, none⟩ (.slice (some ⟨g, 0, none⟩) m cap)).setCell ⟨w.heap.size + 1 + 1 + 1, 0, none⟩ (.int .i64 N)).setCell ⟨w.heap.size + 1 + 1 + 1, 1, none⟩ (.slice (some ⟨g, 0, none⟩) m cap)).heap.size (.slice (some ⟨g, 0, none⟩) m cap) m (flat (wkeep L x y))) := by
      refine ⟨by rw [flat_len, ← Hm.out], .inr ⟨g, cap, rfl, by omega, by simp [World.setCell]; exact hD.2.2.2, by omega, fun q z hz => ?_, fun o => by simp [hD.2.1]⟩⟩
      rw [World.cell?_setCell_other _ _ _ _ (by simp <;> omega), World.cell?_setCell_other _ _ _ _ (by simp <;> omega), World.cell?_setCell_other _ _ _ _ (by simp <;> omega)]
      exact hD.2.2.1 q z hz
    have Hfl : Hid (wflag N L x y = decide (m < n)) := by show wflag N L x y = _; unfold wflag; rw [hG, Bool.true_and, ← Hm.out, hL]
    have Hout : Hid (wout N L x y = wkeep L x y) := by
      show wout N L x y = _
      by_cases hf : wflag N L x y = true
      · exact wout_yes hf
      · rw [Bool.not_eq_true] at hf
        rw [wout_no hf]
        refine (wkeep_same ?_).symm
        rw [Hfl.out] at hf
        rw [← Hm.out, hL]
        exact of_decide_eq_false hf
    clear hm hD d2_0 e2_0 d2_1 e2_1 d2_2 e2_2 d2_3 e2_3 d2_4 e2_4
    go_wp2_with fail
    go_region
    go_wp2_with fail
    refine bodyPost_ret (v := .tuple #[.agg #[.int .i64 N, .slice (some ⟨g, 0, none⟩) m cap], .bool (decide ((m : Int) < (n : Int)))]) (by simp [results, Try.results21, go_sem, r0, r1]) rfl ⟨.slice (some ⟨g, 0, none⟩) m cap, by rw [Hfl.out]; simp, ?_, ?_⟩
    · rw [Hout.out, ← Hm.out]; exact HRow.out
    · exact (((HB3.out.setCell (by show _ ≤ v1.heap.size; omega) _).setCell (by show _ ≤ w.heap.size + 1 + 1 + 1; omega) _).setCell (by show _ ≤ w.heap.size + 1 + 1 + 1; omega) _).drew

end Go.Proofs.Ytkkfgnnhdcmmjab
