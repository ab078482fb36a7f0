/- Without: the program. -/
import Derived.Test.YtkkfgnnhdcmmjabW17
namespace Go.Proofs.Ytkkfgnnhdcmmjab
open Go.RowKit


theorem new_at {w : World} {b o : Nat} {cs : Array Value} {t : TypeId} (h : b = w.heap.size) : (w.alloc (.cells cs t)).cell? ⟨b, o, none⟩ = cs[o]? := by subst h; exact cell_of_row _ _ _ _ _ _ (heap_alloc_new _ _)
theorem new_frz {w : World} {b o : Nat} {cs : Array Value} {t : TypeId} (h : b = w.heap.size) : (w.alloc (.cells cs t)).frozen? ⟨b, o, none⟩ = false := by subst h; exact frozen_of_row _ _ _ _ _ (heap_alloc_new _ _)
theorem old_frz {w : World} {b o : Nat} {x : Obj} (h : b < w.heap.size) : (w.alloc x).frozen? ⟨b, o, none⟩ = w.frozen? ⟨b, o, none⟩ := ((Below.refl w.heap.size w).alloc (Nat.le_refl _) x).frozen (p := ⟨b, o, none⟩) h
/-- What stays without the edges between x and y; whether something went. -/
def wkeep (L : List Ed) (x y : Int) : List Ed := L.filter (fun e => !jnB e.1 e.2.1 x y)
def wflag (N : Int) (L : List Ed) (x y : Int) : Bool := gok N L && decide ((wkeep L x y).length < L.length)
def wout (N : Int) (L : List Ed) (x y : Int) : List Ed := if wflag N L x y = true then wkeep L x y else L
theorem wkeep_len (L : List Ed) (x y : Int) : (wkeep L x y).length ≤ L.length := List.length_filter_le _ _
theorem wkeep_same {L : List Ed} {x y : Int} (h : ¬ (wkeep L x y).length < L.length) : wkeep L x y = L := by
  have h1 : (wkeep L x y).length = L.length := Nat.le_antisymm (wkeep_len L x y) (by omega)
  exact (List.filter_sublist).eq_of_length h1
theorem wout_no {N : Int} {L : List Ed} {x y : Int} (h : wflag N L x y = false) : wout N L x y = L := by unfold wout; rw [h]; rfl
theorem wout_yes {N : Int} {L : List Ed} {x y : Int} (h : wflag N L x y = true) : wout N L x y = wkeep L x y := by unfold wout; rw [h]; rfl
def WPost (N : Int) (L : List Ed) (x y : Int) (w : World) (e : Ending) (w' : World) : Prop := ∃ rv, e = .returned (.tuple #[.agg #[.int .i64 N, rv], .bool (wflag N L x y)]) ∧ Row 3 w' w.heap.size w'.heap.size rv (wout N L x y).length (flat (wout N L x y)) ∧ Below w.heap.size w w'
theorem CopyRow.row {w w' w2 : World} {n lo : Nat} {L : List Ed} {rv : Value} (h : CopyRow w w' n L rv) (hL : L.length = n) (hn : n ≤ 1100000) (hb : Below w'.heap.size w' w2) (hlo : lo ≤ w.heap.size) : Row 3 w2 lo w2.heap.size rv n (flat L) := by
  have hs := hb.size
  rcases h with ⟨rfl, rfl⟩ | ⟨g, cap, rfl, h1, h2, h3, h4, h5⟩
  · obtain rfl : L = [] := List.eq_nil_of_length_eq_zero hL
    exact Row.empty _ _ _ _ _ _
  · exact ⟨by rw [flat_len, hL], .inr ⟨g, cap, rfl, by omega, by omega, hn, fun q z hz => by rw [hb.cell (p := ⟨g, q, none⟩) h3]; exact h5 q z hz, fun o => by rw [hb.frozen (p := ⟨g, o, none⟩) h3]; exact h4 o⟩⟩

set_option maxRecDepth 100000 in
set_option maxHeartbeats 4000000 in
theorem iwo_no (N : Int) (lo hi n : Nat) (v : Value) (L : List Ed) (x y : Int) (w : World) (hL : L.length = n) (hn : n ≤ 1048576) (hr : Row 3 w lo hi v n (flat L)) (hh : hi ≤ w.heap.size) (hG : gok N L = false) :
    Calls Try.prog 21 #[.agg #[.int .i64 N, v], .int .i64 x, .int .i64 y] w (WPost N L x y w) := by
  have hfl : wflag N L x y = false := by unfold wflag; rw [hG]; rfl
  have Hout := Lib.hid (wout_no hfl)
  have Hfl := Lib.hid hfl
  have HR := Lib.hid hr
  obtain ⟨ad, cp, rfl⟩ := hr.slice
  clear hr hfl
  go_enter Try.func21, Try.ntmps21
  go_wp2_with fail
  go_at_call 42
  refine (copy_any N lo hi n _ L _ hL (HR.out.below (B := w.heap.size) (by go_grown) (by omega)) (by simp; omega) hn).mono ?_
  rintro e v1 ⟨rv, rfl, hcr, hb1⟩
  have sz1 : w.heap.size + 4 ≤ v1.heap.size := by have hh := hb1.size; simp at hh; omega
  have st1 : Below w.heap.size w v1 := Below.trans (by go_grown) (hb1.mono (by simp <;> omega))
  have c1_0 : v1.cell? ⟨w.heap.size, 0, none⟩ = some (.int .i64 N) := by rw [(bcell hb1).1 _ _ (by simp <;> omega), old_box (by simp <;> omega), old_box (by simp <;> omega), old_box (by simp <;> omega)]; first | (rw [new_at (by simp)]; rfl) | simp
  have c1_1 : v1.cell? ⟨w.heap.size, 1, none⟩ = some (.slice ad n cp) := by rw [(bcell hb1).1 _ _ (by simp <;> omega), old_box (by simp <;> omega), old_box (by simp <;> omega), old_box (by simp <;> omega)]; first | (rw [new_at (by simp)]; rfl) | simp
  have c1_2 : v1.cell? ⟨w.heap.size + 1, 0, none⟩ = some (.int .i64 x) := by rw [(bcell hb1).1 _ _ (by simp <;> omega), old_box (by simp <;> omega), old_box (by simp <;> omega)]; first | (rw [new_at (by simp)]; rfl) | simp
  have c1_3 : v1.cell? ⟨w.heap.size + 1 + 1, 0, none⟩ = some (.int .i64 y) := by rw [(bcell hb1).1 _ _ (by simp <;> omega), old_box (by simp <;> omega)]; first | (rw [new_at (by simp)]; rfl) | simp
  have c1_4 : v1.cell? ⟨w.heap.size + 1 + 1 + 1, 0, none⟩ = some (.int .i64 0) := by rw [(bcell hb1).1 _ _ (by simp)]; first | (rw [new_at (by simp)]; rfl) | simp
  have c1_5 : v1.cell? ⟨w.heap.size + 1 + 1 + 1, 1, none⟩ = some (.slice none 0 0) := by rw [(bcell hb1).1 _ _ (by simp)]; first | (rw [new_at (by simp)]; rfl) | simp
  have g1_0 : v1.frozen? ⟨w.heap.size + 1 + 1 + 1, 0, none⟩ = false := by rw [(bcell hb1).2 _ _ (by simp), new_frz (by simp)]
  have g1_1 : v1.frozen? ⟨w.heap.size + 1 + 1 + 1, 1, none⟩ = false := by rw [(bcell hb1).2 _ _ (by simp), new_frz (by simp)]
  have B1 : Hid (Below w.heap.size w v1) := st1
  have R1_0 : Hid (Row 3 v1 (lo) (hi) (.slice ad n cp) n (flat L)) := HR.out.below st1 (by omega)
  have d1_0 : w.heap.size < v1.heap.size := by omega
  have e1_0 : w.heap.size ≠ v1.heap.size := by omega
  have d1_1 : w.heap.size + 1 < v1.heap.size := by omega
  have e1_1 : w.heap.size + 1 ≠ v1.heap.size := by omega
  have d1_2 : w.heap.size + 1 + 1 < v1.heap.size := by omega
  have e1_2 : w.heap.size + 1 + 1 ≠ v1.heap.size := by omega
  have d1_3 : w.heap.size + 1 + 1 + 1 < v1.heap.size := by omega
  have e1_3 : w.heap.size + 1 + 1 + 1 ≠ v1.heap.size := by omega
  clear st1 HR hb1
  obtain ⟨ra, rc, hra⟩ : ∃ ra rc, rv = .slice ra n rc := by
    rcases hcr with ⟨h0, h⟩ | ⟨g, cap, h, _⟩
    · exact ⟨none, 0, by rw [h0]; exact h⟩
    · exact ⟨_, cap, h⟩
  subst hra
  have HRC : Hid (Row 3 v1 (w.heap.size + 1 + 1 + 1 + 1) (v1.heap.size) (.slice ra n rc) n (flat L)) := CopyRow.row hcr hL (by omega) (Below.refl _ _) (by simp)
  have HCR := Lib.hid hcr
  clear hcr
  go_wp2_with fail
  go_at_call 12
  refine (igok_any N lo hi n _ L _ hL (R1_0.out.below (B := v1.heap.size) (by go_grown) (by omega)) (by simp; omega)).mono ?_
  rw [hG]
  rintro e v2 ⟨rfl, hb2⟩
  have sz2 : v1.heap.size + 1 ≤ v2.heap.size := by have hh := hb2.size; simp at hh; omega
  have st2 : Below v1.heap.size v1 v2 := Below.trans (by go_grown) (hb2.mono (by simp))
  have c2_0 : v2.cell? ⟨w.heap.size, 0, none⟩ = some (.int .i64 N) := by rw [(bcell st2).1 _ _ (by omega)]; exact c1_0
  have c2_1 : v2.cell? ⟨w.heap.size, 1, none⟩ = some (.slice ad n cp) := by rw [(bcell st2).1 _ _ (by omega)]; exact c1_1
  have c2_2 : v2.cell? ⟨w.heap.size + 1, 0, none⟩ = some (.int .i64 x) := by rw [(bcell st2).1 _ _ (by omega)]; exact c1_2
  have c2_3 : v2.cell? ⟨w.heap.size + 1 + 1, 0, none⟩ = some (.int .i64 y) := by rw [(bcell st2).1 _ _ (by omega)]; exact c1_3
  have c2_4 : v2.cell? ⟨w.heap.size + 1 + 1 + 1, 0, none⟩ = some (.int .i64 0) := by rw [(bcell st2).1 _ _ (by omega)]; exact c1_4
  have c2_5 : v2.cell? ⟨w.heap.size + 1 + 1 + 1, 1, none⟩ = some (.slice none 0 0) := by rw [(bcell st2).1 _ _ (by omega)]; exact c1_5
  have c2_6 : v2.cell? ⟨v1.heap.size, 0, none⟩ = some (.int .i64 N) := by rw [(bcell hb2).1 _ _ (by simp)]; first | (rw [new_at (by simp)]; rfl) | simp
  have c2_7 : v2.cell? ⟨v1.heap.size, 1, none⟩ = some (.slice ra n rc) := by rw [(bcell hb2).1 _ _ (by simp)]; first | (rw [new_at (by simp)]; rfl) | simp
  have g2_0 : v2.frozen? ⟨w.heap.size + 1 + 1 + 1, 0, none⟩ = false := by rw [(bcell st2).2 _ _ (by omega)]; exact g1_0
  have g2_1 : v2.frozen? ⟨w.heap.size + 1 + 1 + 1, 1, none⟩ = false := by rw [(bcell st2).2 _ _ (by omega)]; exact g1_1
  have B2 : Hid (Below w.heap.size w v2) := B1.out.trans (st2.mono (by omega))
  have R2_0 : Hid (Row 3 v2 (lo) (hi) (.slice ad n cp) n (flat L)) := R1_0.out.below st2 (by omega)
  have R2_1 : Hid (Row 3 v2 (w.heap.size + 1 + 1 + 1 + 1) (v1.heap.size) (.slice ra n rc) n (flat L)) := HRC.out.below st2 (by omega)
  have d2_0 : w.heap.size < v2.heap.size := by omega
  have e2_0 : w.heap.size ≠ v2.heap.size := by omega
  have d2_1 : w.heap.size + 1 < v2.heap.size := by omega
  have e2_1 : w.heap.size + 1 ≠ v2.heap.size := by omega
  have d2_2 : w.heap.size + 1 + 1 < v2.heap.size := by omega
  have e2_2 : w.heap.size + 1 + 1 ≠ v2.heap.size := by omega
  have d2_3 : w.heap.size + 1 + 1 + 1 < v2.heap.size := by omega
  have e2_3 : w.heap.size + 1 + 1 + 1 ≠ v2.heap.size := by omega
  have d2_4 : v1.heap.size < v2.heap.size := by omega
  have e2_4 : v1.heap.size ≠ v2.heap.size := by omega
  clear d1_0 e1_0 d1_1 e1_1 d1_2 e1_2 d1_3 e1_3 c1_0 c1_1 c1_2 c1_3 c1_4 c1_5 g1_0 g1_1 B1 st2 R1_0 HRC hb2
  have r0 := set2_0 (x := .int .i64 N) (y := .slice ra n rc) c2_4
  have r1 := set2_1 (x := .int .i64 N) (y := .slice ra n rc) c2_5
  go_wp2_with fail
  refine bodyPost_ret (v := .tuple #[.agg #[.int .i64 N, .slice ra n rc], .bool false]) (by simp [results, Try.results21, go_sem, r0, r1]) rfl ⟨_, by rw [Hfl.out], ?_, ?_⟩
  · rw [Hout.out, hL]
    exact Row.set2 (w0 := w) R2_1.out (.inl (by omega)) _ _ (by omega) (by omega)
  · exact (B2.out.setCell (by show _ ≤ w.heap.size + 1 + 1 + 1; omega) _).setCell (by show _ ≤ w.heap.size + 1 + 1 + 1; omega) _

end Go.Proofs.Ytkkfgnnhdcmmjab
