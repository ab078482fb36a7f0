/- A histogram and another one, combined by the program. -/
import Derived.Test.YtcchoiobdcaboaaS6
import Derived.Test.YtcchoiobdcaboaaS2
import Derived.Test.YtcchoiobdcaboaaS5
import Derived.Deep.DeepCutAuto
namespace Go.Proofs.Ytcchoiobdcaboaa
open Go.RowKit


/-- A histogram and tm times another: valid, the counts, the sum. -/
def cmB (C : List Int) (s : Int) (D : List Int) (t tm : Int) : Bool := hkB C s && (hkB D t && hkB (comb C D tm 21) (s + tm * t))
def cmC (C : List Int) (s : Int) (D : List Int) (t tm : Int) : List Int := if cmB C s D t tm then comb C D tm 21 else C
def cmS (C : List Int) (s : Int) (D : List Int) (t tm : Int) : Int := if cmB C s D t tm then s + tm * t else s
theorem cm_no {C D : List Int} {s t tm : Int} (h : cmB C s D t tm = false) : cmC C s D t tm = C ∧ cmS C s D t tm = s := by unfold cmC cmS; rw [h]; exact ⟨rfl, rfl⟩
theorem cm_yes {C D : List Int} {s t tm : Int} (h : cmB C s D t tm = true) : cmC C s D t tm = comb C D tm 21 ∧ cmS C s D t tm = s + tm * t := by unfold cmC cmS; rw [h]; exact ⟨rfl, rfl⟩
theorem cm_len (C D : List Int) (s t tm : Int) : (cmC C s D t tm).length = C.length := by unfold cmC; split <;> simp [comb_len]
theorem Row.own21 {w : World} {lo hi c : Nat} {a : Option Addr} {C : List Int} (h : Row 1 w lo hi (.slice a 21 c) 21 C) : ∃ G, a = some ⟨G, 0, none⟩ ∧ lo ≤ G ∧ G < hi ∧ (∀ q z, C[q]? = some z → w.cell? ⟨G, q, none⟩ = some (.int .i64 z)) ∧ (∀ o, w.frozen? ⟨G, o, none⟩ = false) ∧ C.length = 21 := by
  obtain ⟨h0, ⟨e, _⟩ | ⟨G, q, e, h1, h2, h3, h4, h5⟩⟩ := h
  · omega
  · simp only [Value.slice.injEq] at e
    exact ⟨G, e.1, h1, h2, h4, h5, by omega⟩

set_option maxRecDepth 100000 in
set_option maxHeartbeats 8000000 in
theorem icomb_any (lo hi n lo2 hi2 n2 : Nat) (v v2 : Value) (s t : Int) (C D : List Int) (tm : Int) (htm : tm = 1 ∨ tm = -1) (w : World) (hr1 : Row 1 w lo hi v n C) (hr2 : Row 1 w lo2 hi2 v2 n2 D) (hh : hi ≤ w.heap.size) (hh2 : hi2 ≤ w.heap.size) (hs : I64 s) (ht : I64 t) :
    Calls Try.prog 51 #[.agg #[v, .int .i64 s], .agg #[v2, .int .i64 t], .int .i64 tm] w (HBPost (cmC C s D t tm) (cmS C s D t tm) (cmB C s D t tm) n w) := by
  have HR1 := Lib.hid hr1
  have HR2 := Lib.hid hr2
  have hl1 : C.length = n := by have := hr1.1; omega
  have hl2 : D.length = n2 := by have := hr2.1; omega
  obtain ⟨ad, cp, rfl⟩ := hr1.slice
  obtain ⟨ad2, cp2, rfl⟩ := hr2.slice
  clear hr1 hr2
  cases h1 : hkB C s with
  | false =>
    have e : cmB C s D t tm = false := by unfold cmB; rw [h1]; rfl
    rw [(cm_no e).1, (cm_no e).2, e]
    clear e hl1 hl2
    go_enter Try.func51, Try.ntmps51
    go_wp2_with fail
    obtain ⟨q1, hq1⟩ : ∃ q, q = (((w.alloc (.cells #[.slice ad n cp, .int .i64 s] 27)).alloc (.cells #[.slice ad2 n2 cp2, .int .i64 t] 27)).alloc (.cells #[.slice none 0 0, .int .i64 0] 27)) := ⟨_, rfl⟩
    have hb1 : Below w.heap.size w q1 := by rw [hq1]; go_grown
    have sz1 : w.heap.size + 3 ≤ q1.heap.size := by rw [hq1]; simp
    have c1_0 : q1.cell? ⟨w.heap.size, 0, none⟩ = some (.slice ad n cp) := by rw [hq1, old_box (by simp <;> omega), old_box (by simp <;> omega), new_at (by simp)]; rfl
    have c1_1 : q1.cell? ⟨w.heap.size, 1, none⟩ = some (.int .i64 s) := by rw [hq1, old_box (by simp <;> omega), old_box (by simp <;> omega), new_at (by simp)]; rfl
    have c1_2 : q1.cell? ⟨w.heap.size + 1, 0, none⟩ = some (.slice ad2 n2 cp2) := by rw [hq1, old_box (by simp <;> omega), new_at (by simp)]; rfl
    have c1_3 : q1.cell? ⟨w.heap.size + 1, 1, none⟩ = some (.int .i64 t) := by rw [hq1, old_box (by simp <;> omega), new_at (by simp)]; rfl
    have c1_4 : q1.cell? ⟨w.heap.size + 1 + 1, 0, none⟩ = some (.slice none 0 0) := by rw [hq1, new_at (by simp)]; rfl
    have c1_5 : q1.cell? ⟨w.heap.size + 1 + 1, 1, none⟩ = some (.int .i64 0) := by rw [hq1, new_at (by simp)]; rfl
    have g1_0 : q1.frozen? ⟨w.heap.size + 1 + 1, 0, none⟩ = false := by rw [hq1, new_frz (by simp)]
    have g1_1 : q1.frozen? ⟨w.heap.size + 1 + 1, 1, none⟩ = false := by rw [hq1, new_frz (by simp)]
    have B1 : Hid (Below w.heap.size w q1) := Lib.hid hb1
    rw [← hq1]
    have d1_0 : w.heap.size < q1.heap.size := by omega
    have e1_0 : w.heap.size ≠ q1.heap.size := by omega
    have d1_1 : w.heap.size + 1 < q1.heap.size := by omega
    have e1_1 : w.heap.size + 1 ≠ q1.heap.size := by omega
    have d1_2 : w.heap.size + 1 + 1 < q1.heap.size := by omega
    have e1_2 : w.heap.size + 1 + 1 ≠ q1.heap.size := by omega
    clear hq1 hb1
    go_wp2_with fail
    go_at_call 32
    refine (ihok_any lo hi n _ s C _ (HR1.out.below B1.out hh) (by have := B1.out.size; omega) hs).mono ?_
    rw [h1]
    rintro e v2 ⟨rfl, hb2⟩
    have sz2 : q1.heap.size ≤ v2.heap.size := hb2.size
    have st2 : Below q1.heap.size q1 v2 := hb2
    have c2_0 : v2.cell? ⟨w.heap.size, 0, none⟩ = some (.slice ad n cp) := by rw [(bcell st2).1 _ _ (by omega)]; exact c1_0
    have c2_1 : v2.cell? ⟨w.heap.size, 1, none⟩ = some (.int .i64 s) := by rw [(bcell st2).1 _ _ (by omega)]; exact c1_1
    have c2_2 : v2.cell? ⟨w.heap.size + 1, 0, none⟩ = some (.slice ad2 n2 cp2) := by rw [(bcell st2).1 _ _ (by omega)]; exact c1_2
    have c2_3 : v2.cell? ⟨w.heap.size + 1, 1, none⟩ = some (.int .i64 t) := by rw [(bcell st2).1 _ _ (by omega)]; exact c1_3
    have c2_4 : v2.cell? ⟨w.heap.size + 1 + 1, 0, none⟩ = some (.slice none 0 0) := by rw [(bcell st2).1 _ _ (by omega)]; exact c1_4
    have c2_5 : v2.cell? ⟨w.heap.size + 1 + 1, 1, none⟩ = some (.int .i64 0) := by rw [(bcell st2).1 _ _ (by omega)]; exact c1_5
    have g2_0 : v2.frozen? ⟨w.heap.size + 1 + 1, 0, none⟩ = false := by rw [(bcell st2).2 _ _ (by omega)]; exact g1_0
    have g2_1 : v2.frozen? ⟨w.heap.size + 1 + 1, 1, none⟩ = false := by rw [(bcell st2).2 _ _ (by omega)]; exact g1_1
    have B2 : Hid (Below w.heap.size w v2) := B1.out.trans (st2.mono (by omega))
    have d2_0 : w.heap.size < v2.heap.size := by omega
    have e2_0 : w.heap.size ≠ v2.heap.size := by omega
    have d2_1 : w.heap.size + 1 < v2.heap.size := by omega
    have e2_1 : w.heap.size + 1 ≠ v2.heap.size := by omega
    have d2_2 : w.heap.size + 1 + 1 < v2.heap.size := by omega
    have e2_2 : w.heap.size + 1 + 1 ≠ v2.heap.size := by omega
    clear d1_0 e1_0 d1_1 e1_1 d1_2 e1_2 c1_0 c1_1 c1_2 c1_3 c1_4 c1_5 g1_0 g1_1 B1 st2 hb2
    go_wp2_with fail
    go_at_call 57
    refine (icph_any lo hi n _ s C _ (HR1.out.below B2.out hh) (by have := B2.out.size; omega)).mono ?_
    rintro e v3 ⟨rv, rfl, hr, hb3⟩
    have sz3 : v2.heap.size ≤ v3.heap.size := hb3.size
    have st3 : Below v2.heap.size v2 v3 := hb3
    have c3_0 : v3.cell? ⟨w.heap.size, 0, none⟩ = some (.slice ad n cp) := by rw [(bcell st3).1 _ _ (by omega)]; exact c2_0
    have c3_1 : v3.cell? ⟨w.heap.size, 1, none⟩ = some (.int .i64 s) := by rw [(bcell st3).1 _ _ (by omega)]; exact c2_1
    have c3_2 : v3.cell? ⟨w.heap.size + 1, 0, none⟩ = some (.slice ad2 n2 cp2) := by rw [(bcell st3).1 _ _ (by omega)]; exact c2_2
    have c3_3 : v3.cell? ⟨w.heap.size + 1, 1, none⟩ = some (.int .i64 t) := by rw [(bcell st3).1 _ _ (by omega)]; exact c2_3
    have c3_4 : v3.cell? ⟨w.heap.size + 1 + 1, 0, none⟩ = some (.slice none 0 0) := by rw [(bcell st3).1 _ _ (by omega)]; exact c2_4
    have c3_5 : v3.cell? ⟨w.heap.size + 1 + 1, 1, none⟩ = some (.int .i64 0) := by rw [(bcell st3).1 _ _ (by omega)]; exact c2_5
    have g3_0 : v3.frozen? ⟨w.heap.size + 1 + 1, 0, none⟩ = false := by rw [(bcell st3).2 _ _ (by omega)]; exact g2_0
    have g3_1 : v3.frozen? ⟨w.heap.size + 1 + 1, 1, none⟩ = false := by rw [(bcell st3).2 _ _ (by omega)]; exact g2_1
    have B3 : Hid (Below w.heap.size w v3) := B2.out.trans (st3.mono (by omega))
    have R3_0 : Hid (Row 1 v3 (v2.heap.size) (v3.heap.size) rv n C) := hr
    have d3_0 : w.heap.size < v3.heap.size := by omega
    have e3_0 : w.heap.size ≠ v3.heap.size := by omega
    have d3_1 : w.heap.size + 1 < v3.heap.size := by omega
    have e3_1 : w.heap.size + 1 ≠ v3.heap.size := by omega
    have d3_2 : w.heap.size + 1 + 1 < v3.heap.size := by omega
    have e3_2 : w.heap.size + 1 + 1 ≠ v3.heap.size := by omega
    clear d2_0 e2_0 d2_1 e2_1 d2_2 e2_2 c2_0 c2_1 c2_2 c2_3 c2_4 c2_5 g2_0 g2_1 B2 st3 hr hb3
    obtain ⟨ra, rc, rfl⟩ := R3_0.out.slice
    have r0 : ((v3.setCell ⟨w.heap.size + 1 + 1, 0, none⟩ (.slice ra n rc)).setCell ⟨w.heap.size + 1 + 1, 1, none⟩ (.int .i64 (s))).cell? ⟨w.heap.size + 1 + 1, 0, none⟩ = some (.slice ra n rc) := by rw [World.cell?_setCell_other _ _ _ _ (by simp)]; exact World.cell?_setCell_same' _ _ _ (by rw [c3_4]; rfl)
    have r1 : ((v3.setCell ⟨w.heap.size + 1 + 1, 0, none⟩ (.slice ra n rc)).setCell ⟨w.heap.size + 1 + 1, 1, none⟩ (.int .i64 (s))).cell? ⟨w.heap.size + 1 + 1, 1, none⟩ = some (.int .i64 (s)) := World.cell?_setCell_same' _ _ _ (by rw [World.cell?_setCell_other _ _ _ _ (by simp), c3_5]; rfl)
    go_wp2_with fail
    refine bodyPost_ret (v := .tuple #[.agg #[.slice ra n rc, .int .i64 (s)], .bool false]) (by simp [results, Try.results51, go_sem, r0, r1]) rfl ⟨_, rfl, ?_, ?_⟩
    · exact ((R3_0.out.setCell (p := ⟨w.heap.size + 1 + 1, 0, none⟩) (.inl (by show w.heap.size + 1 + 1 < _; omega)) _).setCell (p := ⟨w.heap.size + 1 + 1, 1, none⟩) (.inl (by show w.heap.size + 1 + 1 < _; omega)) _).wide (by omega) (by first | (simp [World.setCell]; done) | (simp [World.setCell]; omega))
    · exact ((B3.out.setCell (p := ⟨w.heap.size + 1 + 1, 0, none⟩) (by show _ ≤ w.heap.size + 1 + 1; omega) _).setCell (p := ⟨w.heap.size + 1 + 1, 1, none⟩) (by show _ ≤ w.heap.size + 1 + 1; omega) _)
  | true =>
  cases h2 : hkB D t with
  | false =>
    have e : cmB C s D t tm = false := by unfold cmB; rw [h2, Bool.false_and, Bool.and_false]
    rw [(cm_no e).1, (cm_no e).2, e]
    clear e hl1 hl2
    go_enter Try.func51, Try.ntmps51
    go_wp2_with fail
    obtain ⟨q1, hq1⟩ : ∃ q, q = (((w.alloc (.cells #[.slice ad n cp, .int .i64 s] 27)).alloc (.cells #[.slice ad2 n2 cp2, .int .i64 t] 27)).alloc (.cells #[.slice none 0 0, .int .i64 0] 27)) := ⟨_, rfl⟩
    have hb1 : Below w.heap.size w q1 := by rw [hq1]; go_grown
    have sz1 : w.heap.size + 3 ≤ q1.heap.size := by rw [hq1]; simp
    have c1_0 : q1.cell? ⟨w.heap.size, 0, none⟩ = some (.slice ad n cp) := by rw [hq1, old_box (by simp <;> omega), old_box (by simp <;> omega), new_at (by simp)]; rfl
    have c1_1 : q1.cell? ⟨w.heap.size, 1, none⟩ = some (.int .i64 s) := by rw [hq1, old_box (by simp <;> omega), old_box (by simp <;> omega), new_at (by simp)]; rfl
    have c1_2 : q1.cell? ⟨w.heap.size + 1, 0, none⟩ = some (.slice ad2 n2 cp2) := by rw [hq1, old_box (by simp <;> omega), new_at (by simp)]; rfl
    have c1_3 : q1.cell? ⟨w.heap.size + 1, 1, none⟩ = some (.int .i64 t) := by rw [hq1, old_box (by simp <;> omega), new_at (by simp)]; rfl
    have c1_4 : q1.cell? ⟨w.heap.size + 1 + 1, 0, none⟩ = some (.slice none 0 0) := by rw [hq1, new_at (by simp)]; rfl
    have c1_5 : q1.cell? ⟨w.heap.size + 1 + 1, 1, none⟩ = some (.int .i64 0) := by rw [hq1, new_at (by simp)]; rfl
    have g1_0 : q1.frozen? ⟨w.heap.size + 1 + 1, 0, none⟩ = false := by rw [hq1, new_frz (by simp)]
    have g1_1 : q1.frozen? ⟨w.heap.size + 1 + 1, 1, none⟩ = false := by rw [hq1, new_frz (by simp)]
    have B1 : Hid (Below w.heap.size w q1) := Lib.hid hb1
    rw [← hq1]
    have d1_0 : w.heap.size < q1.heap.size := by omega
    have e1_0 : w.heap.size ≠ q1.heap.size := by omega
    have d1_1 : w.heap.size + 1 < q1.heap.size := by omega
    have e1_1 : w.heap.size + 1 ≠ q1.heap.size := by omega
    have d1_2 : w.heap.size + 1 + 1 < q1.heap.size := by omega
    have e1_2 : w.heap.size + 1 + 1 ≠ q1.heap.size := by omega
    clear hq1 hb1
    go_wp2_with fail
    go_at_call 32
    refine (ihok_any lo hi n _ s C _ (HR1.out.below B1.out hh) (by have := B1.out.size; omega) hs).mono ?_
    rw [h1]
    rintro e v2 ⟨rfl, hb2⟩
    have sz2 : q1.heap.size ≤ v2.heap.size := hb2.size
    have st2 : Below q1.heap.size q1 v2 := hb2
    have c2_0 : v2.cell? ⟨w.heap.size, 0, none⟩ = some (.slice ad n cp) := by rw [(bcell st2).1 _ _ (by omega)]; exact c1_0
    have c2_1 : v2.cell? ⟨w.heap.size, 1, none⟩ = some (.int .i64 s) := by rw [(bcell st2).1 _ _ (by omega)]; exact c1_1
    have c2_2 : v2.cell? ⟨w.heap.size + 1, 0, none⟩ = some (.slice ad2 n2 cp2) := by rw [(bcell st2).1 _ _ (by omega)]; exact c1_2
    have c2_3 : v2.cell? ⟨w.heap.size + 1, 1, none⟩ = some (.int .i64 t) := by rw [(bcell st2).1 _ _ (by omega)]; exact c1_3
    have c2_4 : v2.cell? ⟨w.heap.size + 1 + 1, 0, none⟩ = some (.slice none 0 0) := by rw [(bcell st2).1 _ _ (by omega)]; exact c1_4
    have c2_5 : v2.cell? ⟨w.heap.size + 1 + 1, 1, none⟩ = some (.int .i64 0) := by rw [(bcell st2).1 _ _ (by omega)]; exact c1_5
    have g2_0 : v2.frozen? ⟨w.heap.size + 1 + 1, 0, none⟩ = false := by rw [(bcell st2).2 _ _ (by omega)]; exact g1_0
    have g2_1 : v2.frozen? ⟨w.heap.size + 1 + 1, 1, none⟩ = false := by rw [(bcell st2).2 _ _ (by omega)]; exact g1_1
    have B2 : Hid (Below w.heap.size w v2) := B1.out.trans (st2.mono (by omega))
    have d2_0 : w.heap.size < v2.heap.size := by omega
    have e2_0 : w.heap.size ≠ v2.heap.size := by omega
    have d2_1 : w.heap.size + 1 < v2.heap.size := by omega
    have e2_1 : w.heap.size + 1 ≠ v2.heap.size := by omega
    have d2_2 : w.heap.size + 1 + 1 < v2.heap.size := by omega
    have e2_2 : w.heap.size + 1 + 1 ≠ v2.heap.size := by omega
    clear d1_0 e1_0 d1_1 e1_1 d1_2 e1_2 c1_0 c1_1 c1_2 c1_3 c1_4 c1_5 g1_0 g1_1 B1 st2 hb2
    go_wp2_with fail
    go_at_call 32
    refine (ihok_any lo2 hi2 n2 _ t D _ (HR2.out.below B2.out hh2) (by have := B2.out.size; omega) ht).mono ?_
    rw [h2]
    rintro e v3 ⟨rfl, hb3⟩
    have sz3 : v2.heap.size ≤ v3.heap.size := hb3.size
    have st3 : Below v2.heap.size v2 v3 := hb3
    have c3_0 : v3.cell? ⟨w.heap.size, 0, none⟩ = some (.slice ad n cp) := by rw [(bcell st3).1 _ _ (by omega)]; exact c2_0
    have c3_1 : v3.cell? ⟨w.heap.size, 1, none⟩ = some (.int .i64 s) := by rw [(bcell st3).1 _ _ (by omega)]; exact c2_1
    have c3_2 : v3.cell? ⟨w.heap.size + 1, 0, none⟩ = some (.slice ad2 n2 cp2) := by rw [(bcell st3).1 _ _ (by omega)]; exact c2_2
    have c3_3 : v3.cell? ⟨w.heap.size + 1, 1, none⟩ = some (.int .i64 t) := by rw [(bcell st3).1 _ _ (by omega)]; exact c2_3
    have c3_4 : v3.cell? ⟨w.heap.size + 1 + 1, 0, none⟩ = some (.slice none 0 0) := by rw [(bcell st3).1 _ _ (by omega)]; exact c2_4
    have c3_5 : v3.cell? ⟨w.heap.size + 1 + 1, 1, none⟩ = some (.int .i64 0) := by rw [(bcell st3).1 _ _ (by omega)]; exact c2_5
    have g3_0 : v3.frozen? ⟨w.heap.size + 1 + 1, 0, none⟩ = false := by rw [(bcell st3).2 _ _ (by omega)]; exact g2_0
    have g3_1 : v3.frozen? ⟨w.heap.size + 1 + 1, 1, none⟩ = false := by rw [(bcell st3).2 _ _ (by omega)]; exact g2_1
    have B3 : Hid (Below w.heap.size w v3) := B2.out.trans (st3.mono (by omega))
    have d3_0 : w.heap.size < v3.heap.size := by omega
    have e3_0 : w.heap.size ≠ v3.heap.size := by omega
    have d3_1 : w.heap.size + 1 < v3.heap.size := by omega
    have e3_1 : w.heap.size + 1 ≠ v3.heap.size := by omega
    have d3_2 : w.heap.size + 1 + 1 < v3.heap.size := by omega
    have e3_2 : w.heap.size + 1 + 1 ≠ v3.heap.size := by omega
    clear d2_0 e2_0 d2_1 e2_1 d2_2 e2_2 c2_0 c2_1 c2_2 c2_3 c2_4 c2_5 g2_0 g2_1 B2 st3 hb3
    go_wp2_with fail
    go_at_call 57
    refine (icph_any lo hi n _ s C _ (HR1.out.below B3.out hh) (by have := B3.out.size; omega)).mono ?_
    rintro e v4 ⟨rv, rfl, hr, hb4⟩
    have sz4 : v3.heap.size ≤ v4.heap.size := hb4.size
    have st4 : Below v3.heap.size v3 v4 := hb4
    have c4_0 : v4.cell? ⟨w.heap.size, 0, none⟩ = some (.slice ad n cp) := by rw [(bcell st4).1 _ _ (by omega)]; exact c3_0
    have c4_1 : v4.cell? ⟨w.heap.size, 1, none⟩ = some (.int .i64 s) := by rw [(bcell st4).1 _ _ (by omega)]; exact c3_1
    have c4_2 : v4.cell? ⟨w.heap.size + 1, 0, none⟩ = some (.slice ad2 n2 cp2) := by rw [(bcell st4).1 _ _ (by omega)]; exact c3_2
    have c4_3 : v4.cell? ⟨w.heap.size + 1, 1, none⟩ = some (.int .i64 t) := by rw [(bcell st4).1 _ _ (by omega)]; exact c3_3
    have c4_4 : v4.cell? ⟨w.heap.size + 1 + 1, 0, none⟩ = some (.slice none 0 0) := by rw [(bcell st4).1 _ _ (by omega)]; exact c3_4
    have c4_5 : v4.cell? ⟨w.heap.size + 1 + 1, 1, none⟩ = some (.int .i64 0) := by rw [(bcell st4).1 _ _ (by omega)]; exact c3_5
    have g4_0 : v4.frozen? ⟨w.heap.size + 1 + 1, 0, none⟩ = false := by rw [(bcell st4).2 _ _ (by omega)]; exact g3_0
    have g4_1 : v4.frozen? ⟨w.heap.size + 1 + 1, 1, none⟩ = false := by rw [(bcell st4).2 _ _ (by omega)]; exact g3_1
    have B4 : Hid (Below w.heap.size w v4) := B3.out.trans (st4.mono (by omega))
    have R4_0 : Hid (Row 1 v4 (v3.heap.size) (v4.heap.size) rv n C) := hr
    have d4_0 : w.heap.size < v4.heap.size := by omega
    have e4_0 : w.heap.size ≠ v4.heap.size := by omega
    have d4_1 : w.heap.size + 1 < v4.heap.size := by omega
    have e4_1 : w.heap.size + 1 ≠ v4.heap.size := by omega
    have d4_2 : w.heap.size + 1 + 1 < v4.heap.size := by omega
    have e4_2 : w.heap.size + 1 + 1 ≠ v4.heap.size := by omega
    clear d3_0 e3_0 d3_1 e3_1 d3_2 e3_2 c3_0 c3_1 c3_2 c3_3 c3_4 c3_5 g3_0 g3_1 B3 st4 hr hb4
    obtain ⟨ra, rc, rfl⟩ := R4_0.out.slice
    have r0 : ((v4.setCell ⟨w.heap.size + 1 + 1, 0, none⟩ (.slice ra n rc)).setCell ⟨w.heap.size + 1 + 1, 1, none⟩ (.int .i64 (s))).cell? ⟨w.heap.size + 1 + 1, 0, none⟩ = some (.slice ra n rc) := by rw [World.cell?_setCell_other _ _ _ _ (by simp)]; exact World.cell?_setCell_same' _ _ _ (by rw [c4_4]; rfl)
    have r1 : ((v4.setCell ⟨w.heap.size + 1 + 1, 0, none⟩ (.slice ra n rc)).setCell ⟨w.heap.size + 1 + 1, 1, none⟩ (.int .i64 (s))).cell? ⟨w.heap.size + 1 + 1, 1, none⟩ = some (.int .i64 (s)) := World.cell?_setCell_same' _ _ _ (by rw [World.cell?_setCell_other _ _ _ _ (by simp), c4_5]; rfl)
    go_wp2_with fail
    refine bodyPost_ret (v := .tuple #[.agg #[.slice ra n rc, .int .i64 (s)], .bool false]) (by simp [results, Try.results51, go_sem, r0, r1]) rfl ⟨_, rfl, ?_, ?_⟩
    · exact ((R4_0.out.setCell (p := ⟨w.heap.size + 1 + 1, 0, none⟩) (.inl (by show w.heap.size + 1 + 1 < _; omega)) _).setCell (p := ⟨w.heap.size + 1 + 1, 1, none⟩) (.inl (by show w.heap.size + 1 + 1 < _; omega)) _).wide (by omega) (by first | (simp [World.setCell]; done) | (simp [World.setCell]; omega))
    · exact ((B4.out.setCell (p := ⟨w.heap.size + 1 + 1, 0, none⟩) (by show _ ≤ w.heap.size + 1 + 1; omega) _).setCell (p := ⟨w.heap.size + 1 + 1, 1, none⟩) (by show _ ≤ w.heap.size + 1 + 1; omega) _)
  | true =>
  obtain ⟨l1, k1, _⟩ := hkB_iff.1 h1
  obtain ⟨l2, k2, _⟩ := hkB_iff.1 h2
  have hss := hk_sum h1
  have htt := hk_sum h2
  obtain rfl : n = 21 := by omega
  obtain rfl : n2 = 21 := by omega
  have hC : ∀ i, i < 21 → 0 ≤ cAt C i ∧ cAt C i ≤ 1000000 := fun i hi => cOk_at k1 hi
  have hD : ∀ i, i < 21 → 0 ≤ cAt D i ∧ cAt D i ≤ 1000000 := fun i hi => cOk_at k2 hi
  have HCb := Lib.hid hC
  have HDb := Lib.hid hD
  have HCl := Lib.hid l1
  have HDl := Lib.hid l2
  have hi64 : I64 (s + tm * t) := by rcases htm with e | e <;> rw [e] <;> unfold I64 <;> omega
  have HSS := Lib.hid hss
  have HTT := Lib.hid htt
  have H1 := Lib.hid h1
  have H2 := Lib.hid h2
  clear hC hD l1 l2 k1 k2 hss htt hl1 hl2
  go_enter Try.func51, Try.ntmps51
  go_wp2_with fail
  obtain ⟨q1, hq1⟩ : ∃ q, q = (((w.alloc (.cells #[.slice ad 21 cp, .int .i64 s] 27)).alloc (.cells #[.slice ad2 21 cp2, .int .i64 t] 27)).alloc (.cells #[.slice none 0 0, .int .i64 0] 27)) := ⟨_, rfl⟩
  have hb1 : Below w.heap.size w q1 := by rw [hq1]; go_grown
  have sz1 : w.heap.size + 3 ≤ q1.heap.size := by rw [hq1]; simp
  have c1_0 : q1.cell? ⟨w.heap.size, 0, none⟩ = some (.slice ad 21 cp) := by rw [hq1, old_box (by simp <;> omega), old_box (by simp <;> omega), new_at (by simp)]; rfl
  have c1_1 : q1.cell? ⟨w.heap.size, 1, none⟩ = some (.int .i64 s) := by rw [hq1, old_box (by simp <;> omega), old_box (by simp <;> omega), new_at (by simp)]; rfl
  have c1_2 : q1.cell? ⟨w.heap.size + 1, 0, none⟩ = some (.slice ad2 21 cp2) := by rw [hq1, old_box (by simp <;> omega), new_at (by simp)]; rfl
  have c1_3 : q1.cell? ⟨w.heap.size + 1, 1, none⟩ = some (.int .i64 t) := by rw [hq1, old_box (by simp <;> omega), new_at (by simp)]; rfl
  have c1_4 : q1.cell? ⟨w.heap.size + 1 + 1, 0, none⟩ = some (.slice none 0 0) := by rw [hq1, new_at (by simp)]; rfl
  have c1_5 : q1.cell? ⟨w.heap.size + 1 + 1, 1, none⟩ = some (.int .i64 0) := by rw [hq1, new_at (by simp)]; rfl
  have g1_0 : q1.frozen? ⟨w.heap.size + 1 + 1, 0, none⟩ = false := by rw [hq1, new_frz (by simp)]
  have g1_1 : q1.frozen? ⟨w.heap.size + 1 + 1, 1, none⟩ = false := by rw [hq1, new_frz (by simp)]
  have B1 : Hid (Below w.heap.size w q1) := Lib.hid hb1
  rw [← hq1]
  have d1_0 : w.heap.size < q1.heap.size := by omega
  have e1_0 : w.heap.size ≠ q1.heap.size := by omega
  have d1_1 : w.heap.size + 1 < q1.heap.size := by omega
  have e1_1 : w.heap.size + 1 ≠ q1.heap.size := by omega
  have d1_2 : w.heap.size + 1 + 1 < q1.heap.size := by omega
  have e1_2 : w.heap.size + 1 + 1 ≠ q1.heap.size := by omega
  clear hq1 hb1
  go_wp2_with fail
  go_at_call 32
  refine (ihok_any lo hi 21 _ s C _ (HR1.out.below B1.out hh) (by have := B1.out.size; omega) hs).mono ?_
  rw [h1]
  rintro e v2 ⟨rfl, hb2⟩
  have sz2 : q1.heap.size ≤ v2.heap.size := hb2.size
  have st2 : Below q1.heap.size q1 v2 := hb2
  have c2_0 : v2.cell? ⟨w.heap.size, 0, none⟩ = some (.slice ad 21 cp) := by rw [(bcell st2).1 _ _ (by omega)]; exact c1_0
  have c2_1 : v2.cell? ⟨w.heap.size, 1, none⟩ = some (.int .i64 s) := by rw [(bcell st2).1 _ _ (by omega)]; exact c1_1
  have c2_2 : v2.cell? ⟨w.heap.size + 1, 0, none⟩ = some (.slice ad2 21 cp2) := by rw [(bcell st2).1 _ _ (by omega)]; exact c1_2
  have c2_3 : v2.cell? ⟨w.heap.size + 1, 1, none⟩ = some (.int .i64 t) := by rw [(bcell st2).1 _ _ (by omega)]; exact c1_3
  have c2_4 : v2.cell? ⟨w.heap.size + 1 + 1, 0, none⟩ = some (.slice none 0 0) := by rw [(bcell st2).1 _ _ (by omega)]; exact c1_4
  have c2_5 : v2.cell? ⟨w.heap.size + 1 + 1, 1, none⟩ = some (.int .i64 0) := by rw [(bcell st2).1 _ _ (by omega)]; exact c1_5
  have g2_0 : v2.frozen? ⟨w.heap.size + 1 + 1, 0, none⟩ = false := by rw [(bcell st2).2 _ _ (by omega)]; exact g1_0
  have g2_1 : v2.frozen? ⟨w.heap.size + 1 + 1, 1, none⟩ = false := by rw [(bcell st2).2 _ _ (by omega)]; exact g1_1
  have B2 : Hid (Below w.heap.size w v2) := B1.out.trans (st2.mono (by omega))
  have d2_0 : w.heap.size < v2.heap.size := by omega
  have e2_0 : w.heap.size ≠ v2.heap.size := by omega
  have d2_1 : w.heap.size + 1 < v2.heap.size := by omega
  have e2_1 : w.heap.size + 1 ≠ v2.heap.size := by omega
  have d2_2 : w.heap.size + 1 + 1 < v2.heap.size := by omega
  have e2_2 : w.heap.size + 1 + 1 ≠ v2.heap.size := by omega
  clear d1_0 e1_0 d1_1 e1_1 d1_2 e1_2 c1_0 c1_1 c1_2 c1_3 c1_4 c1_5 g1_0 g1_1 B1 st2 hb2
  go_wp2_with fail
  go_at_call 32
  refine (ihok_any lo2 hi2 21 _ t D _ (HR2.out.below B2.out hh2) (by have := B2.out.size; omega) ht).mono ?_
  rw [h2]
  rintro e v3 ⟨rfl, hb3⟩
  have sz3 : v2.heap.size ≤ v3.heap.size := hb3.size
  have st3 : Below v2.heap.size v2 v3 := hb3
  have c3_0 : v3.cell? ⟨w.heap.size, 0, none⟩ = some (.slice ad 21 cp) := by rw [(bcell st3).1 _ _ (by omega)]; exact c2_0
  have c3_1 : v3.cell? ⟨w.heap.size, 1, none⟩ = some (.int .i64 s) := by rw [(bcell st3).1 _ _ (by omega)]; exact c2_1
  have c3_2 : v3.cell? ⟨w.heap.size + 1, 0, none⟩ = some (.slice ad2 21 cp2) := by rw [(bcell st3).1 _ _ (by omega)]; exact c2_2
  have c3_3 : v3.cell? ⟨w.heap.size + 1, 1, none⟩ = some (.int .i64 t) := by rw [(bcell st3).1 _ _ (by omega)]; exact c2_3
  have c3_4 : v3.cell? ⟨w.heap.size + 1 + 1, 0, none⟩ = some (.slice none 0 0) := by rw [(bcell st3).1 _ _ (by omega)]; exact c2_4
  have c3_5 : v3.cell? ⟨w.heap.size + 1 + 1, 1, none⟩ = some (.int .i64 0) := by rw [(bcell st3).1 _ _ (by omega)]; exact c2_5
  have g3_0 : v3.frozen? ⟨w.heap.size + 1 + 1, 0, none⟩ = false := by rw [(bcell st3).2 _ _ (by omega)]; exact g2_0
  have g3_1 : v3.frozen? ⟨w.heap.size + 1 + 1, 1, none⟩ = false := by rw [(bcell st3).2 _ _ (by omega)]; exact g2_1
  have B3 : Hid (Below w.heap.size w v3) := B2.out.trans (st3.mono (by omega))
  have d3_0 : w.heap.size < v3.heap.size := by omega
  have e3_0 : w.heap.size ≠ v3.heap.size := by omega
  have d3_1 : w.heap.size + 1 < v3.heap.size := by omega
  have e3_1 : w.heap.size + 1 ≠ v3.heap.size := by omega
  have d3_2 : w.heap.size + 1 + 1 < v3.heap.size := by omega
  have e3_2 : w.heap.size + 1 + 1 ≠ v3.heap.size := by omega
  clear d2_0 e2_0 d2_1 e2_1 d2_2 e2_2 c2_0 c2_1 c2_2 c2_3 c2_4 c2_5 g2_0 g2_1 B2 st3 hb3
  go_wp2_with fail
  go_at_call 57
  refine (icph_any lo hi 21 _ s C _ (HR1.out.below B3.out hh) (by have := B3.out.size; omega)).mono ?_
  rintro e v4 ⟨rv, rfl, hr, hb4⟩
  have sz4 : v3.heap.size ≤ v4.heap.size := hb4.size
  have st4 : Below v3.heap.size v3 v4 := hb4
  have c4_0 : v4.cell? ⟨w.heap.size, 0, none⟩ = some (.slice ad 21 cp) := by rw [(bcell st4).1 _ _ (by omega)]; exact c3_0
  have c4_1 : v4.cell? ⟨w.heap.size, 1, none⟩ = some (.int .i64 s) := by rw [(bcell st4).1 _ _ (by omega)]; exact c3_1
  have c4_2 : v4.cell? ⟨w.heap.size + 1, 0, none⟩ = some (.slice ad2 21 cp2) := by rw [(bcell st4).1 _ _ (by omega)]; exact c3_2
  have c4_3 : v4.cell? ⟨w.heap.size + 1, 1, none⟩ = some (.int .i64 t) := by rw [(bcell st4).1 _ _ (by omega)]; exact c3_3
  have c4_4 : v4.cell? ⟨w.heap.size + 1 + 1, 0, none⟩ = some (.slice none 0 0) := by rw [(bcell st4).1 _ _ (by omega)]; exact c3_4
  have c4_5 : v4.cell? ⟨w.heap.size + 1 + 1, 1, none⟩ = some (.int .i64 0) := by rw [(bcell st4).1 _ _ (by omega)]; exact c3_5
  have g4_0 : v4.frozen? ⟨w.heap.size + 1 + 1, 0, none⟩ = false := by rw [(bcell st4).2 _ _ (by omega)]; exact g3_0
  have g4_1 : v4.frozen? ⟨w.heap.size + 1 + 1, 1, none⟩ = false := by rw [(bcell st4).2 _ _ (by omega)]; exact g3_1
  have B4 : Hid (Below w.heap.size w v4) := B3.out.trans (st4.mono (by omega))
  have R4_0 : Hid (Row 1 v4 (v3.heap.size) (v4.heap.size) rv 21 C) := hr
  have d4_0 : w.heap.size < v4.heap.size := by omega
  have e4_0 : w.heap.size ≠ v4.heap.size := by omega
  have d4_1 : w.heap.size + 1 < v4.heap.size := by omega
  have e4_1 : w.heap.size + 1 ≠ v4.heap.size := by omega
  have d4_2 : w.heap.size + 1 + 1 < v4.heap.size := by omega
  have e4_2 : w.heap.size + 1 + 1 ≠ v4.heap.size := by omega
  clear d3_0 e3_0 d3_1 e3_1 d3_2 e3_2 c3_0 c3_1 c3_2 c3_3 c3_4 c3_5 g3_0 g3_1 B3 st4 hr hb4
  obtain ⟨ra, cG, rfl⟩ := R4_0.out.slice
  obtain ⟨G, rfl, hG1, hG2, hG3, hG4, _⟩ := R4_0.out.own21
  have HG3 := Lib.hid hG3
  have HG4 := Lib.hid hG4
  clear hG3 hG4
  clear R4_0
  go_upto_region 4 with fail
  have HHG : Hid (∀ q z, C[q]? = some z → (v4.alloc (.cells #[.slice (some ⟨G, 0, none⟩) 21 cG, .int .i64 s] 27)).cell? ⟨G, q, none⟩ = some (.int .i64 z)) := fun q z hz => by rw [old_box hG2]; exact HG3.out q z hz
  have HHF : Hid (∀ o, (v4.alloc (.cells #[.slice (some ⟨G, 0, none⟩) 21 cG, .int .i64 s] 27)).frozen? ⟨G, o, none⟩ = false) := fun o => by rw [old_frz hG2]; exact HG4.out o
  have HXF : Hid (∀ o, (v4.alloc (.cells #[.slice (some ⟨G, 0, none⟩) 21 cG, .int .i64 s] 27)).frozen? ⟨v4.heap.size, o, none⟩ = false) := fun o => new_frz rfl
  clear HG3 HG4
  obtain ⟨q5, hq5⟩ : ∃ q, q = (v4.alloc (.cells #[.slice (some ⟨G, 0, none⟩) 21 cG, .int .i64 s] 27)) := ⟨_, rfl⟩
  have hb5 : Below v4.heap.size v4 q5 := by rw [hq5]; go_grown
  have sz5 : v4.heap.size + 1 ≤ q5.heap.size := by rw [hq5]; simp
  have c5_0 : q5.cell? ⟨w.heap.size, 0, none⟩ = some (.slice ad 21 cp) := by rw [(bcell hb5).1 _ _ (by omega)]; exact c4_0
  have c5_1 : q5.cell? ⟨w.heap.size, 1, none⟩ = some (.int .i64 s) := by rw [(bcell hb5).1 _ _ (by omega)]; exact c4_1
  have c5_2 : q5.cell? ⟨w.heap.size + 1, 0, none⟩ = some (.slice ad2 21 cp2) := by rw [(bcell hb5).1 _ _ (by omega)]; exact c4_2
  have c5_3 : q5.cell? ⟨w.heap.size + 1, 1, none⟩ = some (.int .i64 t) := by rw [(bcell hb5).1 _ _ (by omega)]; exact c4_3
  have c5_4 : q5.cell? ⟨w.heap.size + 1 + 1, 0, none⟩ = some (.slice none 0 0) := by rw [(bcell hb5).1 _ _ (by omega)]; exact c4_4
  have c5_5 : q5.cell? ⟨w.heap.size + 1 + 1, 1, none⟩ = some (.int .i64 0) := by rw [(bcell hb5).1 _ _ (by omega)]; exact c4_5
  have c5_6 : q5.cell? ⟨v4.heap.size, 0, none⟩ = some (.slice (some ⟨G, 0, none⟩) 21 cG) := by rw [hq5, new_at (by simp)]; rfl
  have c5_7 : q5.cell? ⟨v4.heap.size, 1, none⟩ = some (.int .i64 s) := by rw [hq5, new_at (by simp)]; rfl
  have g5_0 : q5.frozen? ⟨w.heap.size + 1 + 1, 0, none⟩ = false := by rw [(bcell hb5).2 _ _ (by omega)]; exact g4_0
  have g5_1 : q5.frozen? ⟨w.heap.size + 1 + 1, 1, none⟩ = false := by rw [(bcell hb5).2 _ _ (by omega)]; exact g4_1
  have g5_2 : q5.frozen? ⟨v4.heap.size, 0, none⟩ = false := by rw [hq5, new_frz (by simp)]
  have g5_3 : q5.frozen? ⟨v4.heap.size, 1, none⟩ = false := by rw [hq5, new_frz (by simp)]
  have B5 : Hid (Below w.heap.size w q5) := Lib.hid (B4.out.trans (hb5.mono (by omega)))
  rw [← hq5] at HHG HHF HXF ⊢
  have d5_0 : w.heap.size < q5.heap.size := by omega
  have e5_0 : w.heap.size ≠ q5.heap.size := by omega
  have d5_1 : w.heap.size + 1 < q5.heap.size := by omega
  have e5_1 : w.heap.size + 1 ≠ q5.heap.size := by omega
  have d5_2 : w.heap.size + 1 + 1 < q5.heap.size := by omega
  have e5_2 : w.heap.size + 1 + 1 ≠ q5.heap.size := by omega
  have d5_3 : v4.heap.size < q5.heap.size := by omega
  have e5_3 : v4.heap.size ≠ q5.heap.size := by omega
  clear hq5 hb5 d4_0 e4_0 d4_1 e4_1 d4_2 e4_2 c4_0 c4_1 c4_2 c4_3 c4_4 c4_5 g4_0 g4_1 B4
  have HBX : Hid (HBx q5 (v4.heap.size) G cG C s) := ⟨c5_6, c5_7, HXF.out, HHG.out, HHF.out, HCl.out, by omega, by omega, by omega⟩
  clear HHG HHF HXF
  clear c5_6 c5_7 g5_2 g5_3
  obtain ⟨X, hXe⟩ : ∃ X, X = v4.heap.size := ⟨_, rfl⟩
  rw [← hXe] at HBX ⊢
  have hX1 : w.heap.size + 1 + 1 < X := by omega
  have hX2 : G < X := by omega
  have hX3 : X < q5.heap.size := by omega
  have hG5 : w.heap.size + 1 + 1 < G := by omega
  have hG6 : G < q5.heap.size := by omega
  clear hXe d5_0 e5_0 d5_1 e5_1 d5_2 e5_2 d5_3 e5_3
  go_wp2_with fail
  go_at_call 50
  refine (iadd_any X G cG lo2 hi2 _ C D s t tm q5 HBX.out (HR2.out.below B5.out hh2) (by omega) (by omega) (by omega) HCb.out HDb.out htm HSS.out HTT.out).mono ?_
  rintro e v5 ⟨rfl, hX5, hT5⟩
  have HBX5 := Lib.hid hX5
  have HT5 := Lib.hid hT5
  clear hX5 hT5
  have c6_0 : v5.cell? ⟨w.heap.size, 0, none⟩ = some (.slice ad 21 cp) := by rw [HT5.out.cell (by omega) (by omega) (by omega)]; exact c5_0
  have c6_1 : v5.cell? ⟨w.heap.size, 1, none⟩ = some (.int .i64 s) := by rw [HT5.out.cell (by omega) (by omega) (by omega)]; exact c5_1
  have c6_2 : v5.cell? ⟨w.heap.size + 1, 0, none⟩ = some (.slice ad2 21 cp2) := by rw [HT5.out.cell (by omega) (by omega) (by omega)]; exact c5_2
  have c6_3 : v5.cell? ⟨w.heap.size + 1, 1, none⟩ = some (.int .i64 t) := by rw [HT5.out.cell (by omega) (by omega) (by omega)]; exact c5_3
  have c6_4 : v5.cell? ⟨w.heap.size + 1 + 1, 0, none⟩ = some (.slice none 0 0) := by rw [HT5.out.cell (by omega) (by omega) (by omega)]; exact c5_4
  have c6_5 : v5.cell? ⟨w.heap.size + 1 + 1, 1, none⟩ = some (.int .i64 0) := by rw [HT5.out.cell (by omega) (by omega) (by omega)]; exact c5_5
  have g6_0 : v5.frozen? ⟨w.heap.size + 1 + 1, 0, none⟩ = false := by rw [HT5.out.frozen (by omega) (by omega) (by omega)]; exact g5_0
  have g6_1 : v5.frozen? ⟨w.heap.size + 1 + 1, 1, none⟩ = false := by rw [HT5.out.frozen (by omega) (by omega) (by omega)]; exact g5_1
  have B6 : Hid (Below w.heap.size w v5) := B5.out.trans (HT5.out.below (B := w.heap.size) (by omega) (by omega) (by omega))
  clear c5_0 c5_1 c5_2 c5_3 c5_4 c5_5 g5_0 g5_1 B5
  have szX : X < v5.heap.size := HBX5.out.lx
  have szG : G < v5.heap.size := HBX5.out.lg
  have szq := HT5.out.size
  have x0 := HBX5.out.c0
  have x1 := HBX5.out.c1
  clear HBX HT5
  cases h3 : hkB (comb C D tm 21) (s + tm * t) with
  | false =>
    have E : Hid (cmB C s D t tm = false) := by show _ = _; unfold cmB; rw [h3, Bool.and_false, Bool.and_false]
    go_wp2_with fail
    go_at_call 32
    refine (ihok_any G (G + 1) 21 _ (s + tm * t) (comb C D tm 21) _ (HBX5.out.row (Nat.le_refl _) (Nat.lt_succ_self _)) (by omega) hi64).mono ?_
    rw [h3]
    rintro e v7 ⟨rfl, hb7⟩
    have sz7 : v5.heap.size ≤ v7.heap.size := hb7.size
    have st7 : Below v5.heap.size v5 v7 := hb7
    have c7_0 : v7.cell? ⟨w.heap.size, 0, none⟩ = some (.slice ad 21 cp) := by rw [(bcell st7).1 _ _ (by omega)]; exact c6_0
    have c7_1 : v7.cell? ⟨w.heap.size, 1, none⟩ = some (.int .i64 s) := by rw [(bcell st7).1 _ _ (by omega)]; exact c6_1
    have c7_2 : v7.cell? ⟨w.heap.size + 1, 0, none⟩ = some (.slice ad2 21 cp2) := by rw [(bcell st7).1 _ _ (by omega)]; exact c6_2
    have c7_3 : v7.cell? ⟨w.heap.size + 1, 1, none⟩ = some (.int .i64 t) := by rw [(bcell st7).1 _ _ (by omega)]; exact c6_3
    have c7_4 : v7.cell? ⟨w.heap.size + 1 + 1, 0, none⟩ = some (.slice none 0 0) := by rw [(bcell st7).1 _ _ (by omega)]; exact c6_4
    have c7_5 : v7.cell? ⟨w.heap.size + 1 + 1, 1, none⟩ = some (.int .i64 0) := by rw [(bcell st7).1 _ _ (by omega)]; exact c6_5
    have c7_6 : v7.cell? ⟨X, 0, none⟩ = some (.slice (some ⟨G, 0, none⟩) 21 cG) := by rw [(bcell st7).1 _ _ (by omega)]; exact x0
    have c7_7 : v7.cell? ⟨X, 1, none⟩ = some (.int .i64 (s + tm * t)) := by rw [(bcell st7).1 _ _ (by omega)]; exact x1
    have g7_0 : v7.frozen? ⟨w.heap.size + 1 + 1, 0, none⟩ = false := by rw [(bcell st7).2 _ _ (by omega)]; exact g6_0
    have g7_1 : v7.frozen? ⟨w.heap.size + 1 + 1, 1, none⟩ = false := by rw [(bcell st7).2 _ _ (by omega)]; exact g6_1
    have B7 : Hid (Below w.heap.size w v7) := B6.out.trans (st7.mono (by omega))
    have d7_0 : w.heap.size < v7.heap.size := by omega
    have e7_0 : w.heap.size ≠ v7.heap.size := by omega
    have d7_1 : w.heap.size + 1 < v7.heap.size := by omega
    have e7_1 : w.heap.size + 1 ≠ v7.heap.size := by omega
    have d7_2 : w.heap.size + 1 + 1 < v7.heap.size := by omega
    have e7_2 : w.heap.size + 1 + 1 ≠ v7.heap.size := by omega
    have ST7 := Lib.hid st7
    clear c6_0 c6_1 c6_2 c6_3 c6_4 c6_5 x0 x1 g6_0 g6_1 B6 st7 hb7
    go_wp2_with fail
    go_at_call 57
    refine (icph_any lo hi 21 _ s C _ (HR1.out.below B7.out hh) (by have := B7.out.size; omega)).mono ?_
    rintro e v8 ⟨rv, rfl, hr, hb8⟩
    have sz8 : v7.heap.size ≤ v8.heap.size := hb8.size
    have st8 : Below v7.heap.size v7 v8 := hb8
    have c8_0 : v8.cell? ⟨w.heap.size, 0, none⟩ = some (.slice ad 21 cp) := by rw [(bcell st8).1 _ _ (by omega)]; exact c7_0
    have c8_1 : v8.cell? ⟨w.heap.size, 1, none⟩ = some (.int .i64 s) := by rw [(bcell st8).1 _ _ (by omega)]; exact c7_1
    have c8_2 : v8.cell? ⟨w.heap.size + 1, 0, none⟩ = some (.slice ad2 21 cp2) := by rw [(bcell st8).1 _ _ (by omega)]; exact c7_2
    have c8_3 : v8.cell? ⟨w.heap.size + 1, 1, none⟩ = some (.int .i64 t) := by rw [(bcell st8).1 _ _ (by omega)]; exact c7_3
    have c8_4 : v8.cell? ⟨w.heap.size + 1 + 1, 0, none⟩ = some (.slice none 0 0) := by rw [(bcell st8).1 _ _ (by omega)]; exact c7_4
    have c8_5 : v8.cell? ⟨w.heap.size + 1 + 1, 1, none⟩ = some (.int .i64 0) := by rw [(bcell st8).1 _ _ (by omega)]; exact c7_5
    have c8_6 : v8.cell? ⟨X, 0, none⟩ = some (.slice (some ⟨G, 0, none⟩) 21 cG) := by rw [(bcell st8).1 _ _ (by omega)]; exact c7_6
    have c8_7 : v8.cell? ⟨X, 1, none⟩ = some (.int .i64 (s + tm * t)) := by rw [(bcell st8).1 _ _ (by omega)]; exact c7_7
    have g8_0 : v8.frozen? ⟨w.heap.size + 1 + 1, 0, none⟩ = false := by rw [(bcell st8).2 _ _ (by omega)]; exact g7_0
    have g8_1 : v8.frozen? ⟨w.heap.size + 1 + 1, 1, none⟩ = false := by rw [(bcell st8).2 _ _ (by omega)]; exact g7_1
    have B8 : Hid (Below w.heap.size w v8) := B7.out.trans (st8.mono (by omega))
    have R8_0 : Hid (Row 1 v8 (v7.heap.size) (v8.heap.size) rv 21 C) := hr
    have d8_0 : w.heap.size < v8.heap.size := by omega
    have e8_0 : w.heap.size ≠ v8.heap.size := by omega
    have d8_1 : w.heap.size + 1 < v8.heap.size := by omega
    have e8_1 : w.heap.size + 1 ≠ v8.heap.size := by omega
    have d8_2 : w.heap.size + 1 + 1 < v8.heap.size := by omega
    have e8_2 : w.heap.size + 1 + 1 ≠ v8.heap.size := by omega
    clear d7_0 e7_0 d7_1 e7_1 d7_2 e7_2 c7_0 c7_1 c7_2 c7_3 c7_4 c7_5 c7_6 c7_7 g7_0 g7_1 B7 st8 hr hb8
    obtain ⟨ra, rc, rfl⟩ := R8_0.out.slice
    have r0 : ((v8.setCell ⟨w.heap.size + 1 + 1, 0, none⟩ (.slice ra 21 rc)).setCell ⟨w.heap.size + 1 + 1, 1, none⟩ (.int .i64 (s))).cell? ⟨w.heap.size + 1 + 1, 0, none⟩ = some (.slice ra 21 rc) := by rw [World.cell?_setCell_other _ _ _ _ (by simp)]; exact World.cell?_setCell_same' _ _ _ (by rw [c8_4]; rfl)
    have r1 : ((v8.setCell ⟨w.heap.size + 1 + 1, 0, none⟩ (.slice ra 21 rc)).setCell ⟨w.heap.size + 1 + 1, 1, none⟩ (.int .i64 (s))).cell? ⟨w.heap.size + 1 + 1, 1, none⟩ = some (.int .i64 (s)) := World.cell?_setCell_same' _ _ _ (by rw [World.cell?_setCell_other _ _ _ _ (by simp), c8_5]; rfl)
    go_wp2_with fail
    refine bodyPost_ret (v := .tuple #[.agg #[.slice ra 21 rc, .int .i64 (s)], .bool false]) (by simp [results, Try.results51, go_sem, r0, r1]) rfl ?_
    rw [(cm_no E.out).1, (cm_no E.out).2, E.out]
    refine ⟨_, rfl, ?_, ?_⟩
    · exact ((R8_0.out.setCell (p := ⟨w.heap.size + 1 + 1, 0, none⟩) (.inl (by show w.heap.size + 1 + 1 < _; omega)) _).setCell (p := ⟨w.heap.size + 1 + 1, 1, none⟩) (.inl (by show w.heap.size + 1 + 1 < _; omega)) _).wide (by omega) (by first | (simp [World.setCell]; done) | (simp [World.setCell]; omega))
    · exact ((B8.out.setCell (p := ⟨w.heap.size + 1 + 1, 0, none⟩) (by show _ ≤ w.heap.size + 1 + 1; omega) _).setCell (p := ⟨w.heap.size + 1 + 1, 1, none⟩) (by show _ ≤ w.heap.size + 1 + 1; omega) _)
  | true =>
    have E : Hid (cmB C s D t tm = true) := by show _ = _; unfold cmB; rw [H1.out, H2.out, h3]; rfl
    go_wp2_with fail
    go_at_call 32
    refine (ihok_any G (G + 1) 21 _ (s + tm * t) (comb C D tm 21) _ (HBX5.out.row (Nat.le_refl _) (Nat.lt_succ_self _)) (by omega) hi64).mono ?_
    rw [h3]
    rintro e v7 ⟨rfl, hb7⟩
    have sz7 : v5.heap.size ≤ v7.heap.size := hb7.size
    have st7 : Below v5.heap.size v5 v7 := hb7
    have c7_0 : v7.cell? ⟨w.heap.size, 0, none⟩ = some (.slice ad 21 cp) := by rw [(bcell st7).1 _ _ (by omega)]; exact c6_0
    have c7_1 : v7.cell? ⟨w.heap.size, 1, none⟩ = some (.int .i64 s) := by rw [(bcell st7).1 _ _ (by omega)]; exact c6_1
    have c7_2 : v7.cell? ⟨w.heap.size + 1, 0, none⟩ = some (.slice ad2 21 cp2) := by rw [(bcell st7).1 _ _ (by omega)]; exact c6_2
    have c7_3 : v7.cell? ⟨w.heap.size + 1, 1, none⟩ = some (.int .i64 t) := by rw [(bcell st7).1 _ _ (by omega)]; exact c6_3
    have c7_4 : v7.cell? ⟨w.heap.size + 1 + 1, 0, none⟩ = some (.slice none 0 0) := by rw [(bcell st7).1 _ _ (by omega)]; exact c6_4
    have c7_5 : v7.cell? ⟨w.heap.size + 1 + 1, 1, none⟩ = some (.int .i64 0) := by rw [(bcell st7).1 _ _ (by omega)]; exact c6_5
    have c7_6 : v7.cell? ⟨X, 0, none⟩ = some (.slice (some ⟨G, 0, none⟩) 21 cG) := by rw [(bcell st7).1 _ _ (by omega)]; exact x0
    have c7_7 : v7.cell? ⟨X, 1, none⟩ = some (.int .i64 (s + tm * t)) := by rw [(bcell st7).1 _ _ (by omega)]; exact x1
    have g7_0 : v7.frozen? ⟨w.heap.size + 1 + 1, 0, none⟩ = false := by rw [(bcell st7).2 _ _ (by omega)]; exact g6_0
    have g7_1 : v7.frozen? ⟨w.heap.size + 1 + 1, 1, none⟩ = false := by rw [(bcell st7).2 _ _ (by omega)]; exact g6_1
    have B7 : Hid (Below w.heap.size w v7) := B6.out.trans (st7.mono (by omega))
    have d7_0 : w.heap.size < v7.heap.size := by omega
    have e7_0 : w.heap.size ≠ v7.heap.size := by omega
    have d7_1 : w.heap.size + 1 < v7.heap.size := by omega
    have e7_1 : w.heap.size + 1 ≠ v7.heap.size := by omega
    have d7_2 : w.heap.size + 1 + 1 < v7.heap.size := by omega
    have e7_2 : w.heap.size + 1 + 1 ≠ v7.heap.size := by omega
    have ST7 := Lib.hid st7
    clear c6_0 c6_1 c6_2 c6_3 c6_4 c6_5 x0 x1 g6_0 g6_1 B6 st7 hb7
    have HBX6 := HBX5.out.below ST7.out szX szG
    have szG6 := HBX6.lg
    have r0 : ((v7.setCell ⟨w.heap.size + 1 + 1, 0, none⟩ (.slice (some ⟨G, 0, none⟩) 21 cG)).setCell ⟨w.heap.size + 1 + 1, 1, none⟩ (.int .i64 (s + tm * t))).cell? ⟨w.heap.size + 1 + 1, 0, none⟩ = some (.slice (some ⟨G, 0, none⟩) 21 cG) := by rw [World.cell?_setCell_other _ _ _ _ (by simp)]; exact World.cell?_setCell_same' _ _ _ (by rw [c7_4]; rfl)
    have r1 : ((v7.setCell ⟨w.heap.size + 1 + 1, 0, none⟩ (.slice (some ⟨G, 0, none⟩) 21 cG)).setCell ⟨w.heap.size + 1 + 1, 1, none⟩ (.int .i64 (s + tm * t))).cell? ⟨w.heap.size + 1 + 1, 1, none⟩ = some (.int .i64 (s + tm * t)) := World.cell?_setCell_same' _ _ _ (by rw [World.cell?_setCell_other _ _ _ _ (by simp), c7_5]; rfl)
    go_wp2_with fail
    refine bodyPost_ret (v := .tuple #[.agg #[.slice (some ⟨G, 0, none⟩) 21 cG, .int .i64 (s + tm * t)], .bool true]) (by simp [results, Try.results51, go_sem, r0, r1]) rfl ?_
    rw [(cm_yes E.out).1, (cm_yes E.out).2, E.out]
    refine ⟨_, rfl, ?_, ?_⟩
    · exact (((HBX6.row (lo := G) (hi := G + 1) (Nat.le_refl _) (Nat.lt_succ_self _)).setCell (p := ⟨w.heap.size + 1 + 1, 0, none⟩) (.inl (by show w.heap.size + 1 + 1 < _; omega)) _).setCell (p := ⟨w.heap.size + 1 + 1, 1, none⟩) (.inl (by show w.heap.size + 1 + 1 < _; omega)) _).wide (by omega) (by first | (simp [World.setCell]; done) | (simp [World.setCell]; omega))
    · exact ((B7.out.setCell (p := ⟨w.heap.size + 1 + 1, 0, none⟩) (by show _ ≤ w.heap.size + 1 + 1; omega) _).setCell (p := ⟨w.heap.size + 1 + 1, 1, none⟩) (by show _ ≤ w.heap.size + 1 + 1; omega) _)

end Go.Proofs.Ytcchoiobdcaboaa
