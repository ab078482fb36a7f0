/- What a database lacks; rows of numbers. -/
import Derived.Test.YtfpafjdakipccaaCf
import Derived.Test.YtfpafjdakipccaaGi
import Derived.Test.YtfpafjdakipccaaGx
import Derived.Maps.AppendAt
import Derived.Deep.AppendLies
namespace Go.Proofs.Ytfpafjdakipccaa
open Go.RowKit


/-- What A lacks of B. -/
def lakB (A : List Ls) (l : Ls) : Bool := codeF (dfind A l.o) l == 0
def lkL (A B : List Ls) : List Int := (B.filter (lakB A)).map (·.o)
def lks_ (A B : List Ls) : List Int := if dokB A = true ∧ dokB B = true then lkL A B else []
theorem lkL_yes {A D : List Ls} {k : Nat} {p : Ls} (h : D[k]? = some p) (hc : lakB A p = true) : lkL A (D.take (k + 1)) = lkL A (D.take k) ++ [p.o] := by
  unfold lkL; rw [take_snocD h, List.filter_append, List.map_append]; simp [hc]
theorem lkL_no {A D : List Ls} {k : Nat} {p : Ls} (h : D[k]? = some p) (hc : lakB A p = false) : lkL A (D.take (k + 1)) = lkL A (D.take k) := by
  unfold lkL; rw [take_snocD h, List.filter_append, List.map_append]; simp [hc]
theorem lkL_len (A : List Ls) (D : List Ls) : (lkL A D).length ≤ D.length := by unfold lkL; rw [List.length_map]; exact List.length_filter_le _ _
theorem cell_one_new1 (w : World) (x : Value) (T : TypeId) (j : Nat) (u : Value) (h : [x][j]? = some u) : (w.alloc (.cells #[x] T)).cell? ((⟨w.heap.size, 0, none⟩ : Addr).add j) = some u := by
  rw [add_none]
  rcases j with _ | j
  · simp at h; subst h; simp
  · simp at h
theorem int_one1 (z : Int) : ∀ u ∈ [Value.int .i64 z], u.oneCell' = true := by intro u hu; simp at hu; subst hu; rfl
theorem own_lit0 (w : World) : Own 3 1 w (w.alloc (.cells #[] 3)) (.slice (some ⟨w.heap.size, 0, none⟩) 0 0) 0 (ints []) :=
  ⟨(Below.refl _ _).alloc (Nat.le_refl _) _, ⟨rfl, .inr ⟨_, 0, #[], rfl, Nat.le_refl _, heap_alloc_new w (.cells #[] 3), Nat.zero_le _, Nat.zero_le _, rfl, by simp [ints]⟩⟩⟩
/-- Two boxes, and what lay before. -/
structure L2 (w wr : World) (va vb : Value) : Prop where
  c0 : wr.cell? ⟨w.heap.size, 0, none⟩ = some va
  c1 : wr.cell? ⟨w.heap.size + 1, 0, none⟩ = some vb
  size : w.heap.size + 1 < wr.heap.size
  below : Below w.heap.size w wr
theorem L2.next {w wr w2 : World} {va vb : Value} (h : L2 w wr va vb) (hb : Below (w.heap.size + 2) wr w2) : L2 w w2 va vb :=
  ⟨by rw [hb.cell (p := ⟨w.heap.size, 0, none⟩) (by show w.heap.size < _; omega)]; exact h.c0, by rw [hb.cell (p := ⟨w.heap.size + 1, 0, none⟩) (by show w.heap.size + 1 < _; omega)]; exact h.c1, Nat.lt_of_lt_of_le h.size hb.size, h.below.trans (hb.mono (by omega))⟩

set_option linter.unusedVariables false in
set_option maxRecDepth 100000 in
set_option maxHeartbeats 8000000 in
theorem ilack_1 (DA DB : List Ls) (lo hi lo2 hi2 : Nat) (v v2 : Value) (w : World) (hr : DRow w lo hi v DA) (hr2 : DRow w lo2 hi2 v2 DB) (hh : hi ≤ w.heap.size) (hh2 : hi2 ≤ w.heap.size)  (ha : dokB DA = false) :
    Calls Try.prog 39 #[.agg #[v], .agg #[v2]] w fun e w' => ∃ rv, e = .returned rv ∧ Row 1 w' w.heap.size w'.heap.size rv (lks_ DA DB).length (lks_ DA DB) ∧ Below w.heap.size w w' := by
  have HA := Lib.hid ha
  have HZ : Hid (lks_ DA DB = []) := Lib.hid (if_neg (by rw [ha]; simp))
  have R0 := Lib.hid hr
  have R1 := Lib.hid hr2
  have hr' := hr2
  obtain ⟨a0, c0, e0⟩ := hr.slice
  subst e0
  obtain ⟨a, c, us, xs, bs, ev, X⟩ := hr'
  subst ev
  obtain ⟨na, hna⟩ : ∃ n, n = DA.length := ⟨_, rfl⟩
  rw [← hna] at R0 ⊢
  obtain ⟨n, hn⟩ : ∃ n, n = DB.length := ⟨_, rfl⟩
  rw [← hn] at R1 ⊢
  have HN := Lib.hid hn
  clear X hr hr2 hn hna ha
  go_enter Try.func39, Try.ntmps39
  go_wp2_with fail
  go_at_call 20
  refine (idbok_any DA lo hi _ _ (R0.out.below (B := w.heap.size) (by go_grown) (by omega)) (by first | omega | (simp; omega) | simp)).mono ?_
  rw [HA.out]
  rintro e v1 ⟨rfl, hb1⟩
  have sz1 : w.heap.size + 2 ≤ v1.heap.size := by have hh := hb1.size; simp at hh; omega
  have st1 : Below w.heap.size w v1 := Below.trans (by go_grown) (hb1.mono (by simp <;> omega))
  have c1_0 : v1.cell? ⟨w.heap.size, 0, none⟩ = some (.slice a0 na c0) := by rw [(bcell hb1).1 _ _ (by simp <;> omega), old_box (by simp <;> omega)]; first | (rw [new_at (by simp)]; rfl) | simp
  have c1_1 : v1.cell? ⟨w.heap.size + 1, 0, none⟩ = some (.slice a n c) := by rw [(bcell hb1).1 _ _ (by simp)]; first | (rw [new_at (by simp)]; rfl) | simp
  have B1 : Hid (Below w.heap.size w v1) := st1
  have R1_0 : Hid (DRow v1 (lo) (hi) (.slice a0 na c0)  DA) := R0.out.below st1 (by omega)
  have R1_1 : Hid (DRow v1 (lo2) (hi2) (.slice a n c)  DB) := R1.out.below st1 (by omega)
  have d1_0 : w.heap.size < v1.heap.size := by omega
  have e1_0 : w.heap.size ≠ v1.heap.size := by omega
  have d1_1 : w.heap.size + 1 < v1.heap.size := by omega
  have e1_1 : w.heap.size + 1 ≠ v1.heap.size := by omega
  clear st1 R0 R1 hb1
  go_wp2_with fail
  go_ret
  exact ⟨_, rfl, by rw [HZ.out]; exact ⟨rfl, .inl ⟨rfl, none, 0, rfl⟩⟩, B1.out⟩

set_option linter.unusedVariables false in
set_option maxRecDepth 100000 in
set_option maxHeartbeats 8000000 in
theorem ilack_2 (DA DB : List Ls) (lo hi lo2 hi2 : Nat) (v v2 : Value) (w : World) (hr : DRow w lo hi v DA) (hr2 : DRow w lo2 hi2 v2 DB) (hh : hi ≤ w.heap.size) (hh2 : hi2 ≤ w.heap.size)  (ha : dokB DA = true) (hb : dokB DB = false) :
    Calls Try.prog 39 #[.agg #[v], .agg #[v2]] w fun e w' => ∃ rv, e = .returned rv ∧ Row 1 w' w.heap.size w'.heap.size rv (lks_ DA DB).length (lks_ DA DB) ∧ Below w.heap.size w w' := by
  have HA := Lib.hid ha
  have HB := Lib.hid hb
  have HZ : Hid (lks_ DA DB = []) := Lib.hid (if_neg (by rw [hb]; simp))
  have R0 := Lib.hid hr
  have R1 := Lib.hid hr2
  have hr' := hr2
  obtain ⟨a0, c0, e0⟩ := hr.slice
  subst e0
  obtain ⟨a, c, us, xs, bs, ev, X⟩ := hr'
  subst ev
  obtain ⟨na, hna⟩ : ∃ n, n = DA.length := ⟨_, rfl⟩
  rw [← hna] at R0 ⊢
  obtain ⟨n, hn⟩ : ∃ n, n = DB.length := ⟨_, rfl⟩
  rw [← hn] at R1 ⊢
  have HN := Lib.hid hn
  clear X hr hr2 hn hna ha hb
  go_enter Try.func39, Try.ntmps39
  go_wp2_with fail
  go_at_call 20
  refine (idbok_any DA lo hi _ _ (R0.out.below (B := w.heap.size) (by go_grown) (by omega)) (by first | omega | (simp; omega) | simp)).mono ?_
  rw [HA.out]
  rintro e v1 ⟨rfl, hb1⟩
  have sz1 : w.heap.size + 2 ≤ v1.heap.size := by have hh := hb1.size; simp at hh; omega
  have st1 : Below w.heap.size w v1 := Below.trans (by go_grown) (hb1.mono (by simp <;> omega))
  have c1_0 : v1.cell? ⟨w.heap.size, 0, none⟩ = some (.slice a0 na c0) := by rw [(bcell hb1).1 _ _ (by simp <;> omega), old_box (by simp <;> omega)]; first | (rw [new_at (by simp)]; rfl) | simp
  have c1_1 : v1.cell? ⟨w.heap.size + 1, 0, none⟩ = some (.slice a n c) := by rw [(bcell hb1).1 _ _ (by simp)]; first | (rw [new_at (by simp)]; rfl) | simp
  have B1 : Hid (Below w.heap.size w v1) := st1
  have R1_0 : Hid (DRow v1 (lo) (hi) (.slice a0 na c0)  DA) := R0.out.below st1 (by omega)
  have R1_1 : Hid (DRow v1 (lo2) (hi2) (.slice a n c)  DB) := R1.out.below st1 (by omega)
  have d1_0 : w.heap.size < v1.heap.size := by omega
  have e1_0 : w.heap.size ≠ v1.heap.size := by omega
  have d1_1 : w.heap.size + 1 < v1.heap.size := by omega
  have e1_1 : w.heap.size + 1 ≠ v1.heap.size := by omega
  clear st1 R0 R1 hb1
  go_wp2_with fail
  go_at_call 20
  refine (idbok_any DB lo2 hi2 _ _ R1_1.out (by first | omega | (simp; omega) | simp)).mono ?_
  rw [HB.out]
  rintro e v2 ⟨rfl, hb2⟩
  have sz2 : v1.heap.size ≤ v2.heap.size := hb2.size
  have st2 : Below v1.heap.size v1 v2 := hb2
  have c2_0 : v2.cell? ⟨w.heap.size, 0, none⟩ = some (.slice a0 na c0) := by rw [(bcell st2).1 _ _ (by omega)]; exact c1_0
  have c2_1 : v2.cell? ⟨w.heap.size + 1, 0, none⟩ = some (.slice a n c) := by rw [(bcell st2).1 _ _ (by omega)]; exact c1_1
  have B2 : Hid (Below w.heap.size w v2) := B1.out.trans (st2.mono (by omega))
  have R2_0 : Hid (DRow v2 (lo) (hi) (.slice a0 na c0)  DA) := R1_0.out.below st2 (by omega)
  have R2_1 : Hid (DRow v2 (lo2) (hi2) (.slice a n c)  DB) := R1_1.out.below st2 (by omega)
  have d2_0 : w.heap.size < v2.heap.size := by omega
  have e2_0 : w.heap.size ≠ v2.heap.size := by omega
  have d2_1 : w.heap.size + 1 < v2.heap.size := by omega
  have e2_1 : w.heap.size + 1 ≠ v2.heap.size := by omega
  clear d1_0 e1_0 d1_1 e1_1 c1_0 c1_1 B1 st2 R1_0 R1_1 hb2
  go_wp2_with fail
  go_ret
  exact ⟨_, rfl, by rw [HZ.out]; exact ⟨rfl, .inl ⟨rfl, none, 0, rfl⟩⟩, B2.out⟩

end Go.Proofs.Ytfpafjdakipccaa
