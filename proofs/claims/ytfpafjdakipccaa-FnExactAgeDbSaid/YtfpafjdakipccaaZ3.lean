/- An advertisement aged, by both. -/
import Derived.Test.YtfpafjdakipccaaZ2
import Derived.Test.YtfpafjdakipccaaX5
namespace Go.Proofs.Ytfpafjdakipccaa
open Go.RowKit


/-- Whether an advertisement can be aged so. -/
def agB (o s ag by_ : Int) (K : List Lk) (T : List Ed) : Bool := lokB o s ag K T && inB by_ 0 60
/-- The age behind it. -/
def agV (o s ag by_ : Int) (K : List Lk) (T : List Ed) : Int := if agB o s ag by_ K T = true then (if 60 < ag + by_ then 60 else ag + by_) else ag
theorem agV_no {o s ag by_ : Int} {K : List Lk} {T : List Ed} (h : agB o s ag by_ K T = false) : agV o s ag by_ K T = ag := if_neg (by rw [h]; decide)
theorem agV_yes {o s ag by_ : Int} {K : List Lk} {T : List Ed} (h : agB o s ag by_ K T = true) : agV o s ag by_ K T = if 60 < ag + by_ then 60 else ag + by_ := if_pos h
theorem lok_bd' {o s ag : Int} {K : List Lk} {T : List Ed} (h : lokB o s ag K T = true) : 0 ≤ ag ∧ ag ≤ 60 := by
  unfold lokB at h
  rw [Bool.and_eq_true, Bool.and_eq_true, Bool.and_eq_true, Bool.and_eq_true, inB_iff, inB_iff, inB_iff] at h
  omega

set_option linter.unusedVariables false in
set_option maxRecDepth 100000 in
set_option maxHeartbeats 4000000 in
theorem iage_0 (o s ag by_ : Int) (lo hi n m : Nat) (u v : Value) (K : List Lk) (T : List Ed) (w : World) (hK : K.length = n) (hT : T.length = m) (hr : LRow w lo hi u v n m (flat2 K) (flat T)) (hh : hi ≤ w.heap.size) (hn : n ≤ 1048576) (hm : m ≤ 1048576) (hv : lokB o s ag K T = false) (hb : agB o s ag by_ K T = false) :
    Calls Try.prog 76 #[.agg #[.int .i64 o, .int .i64 s, .int .i64 ag, u, v], .int .i64 by_] w fun e w' => ∃ ru rv, e = .returned (.tuple #[.agg #[.int .i64 o, .int .i64 s, .int .i64 (agV o s ag by_ K T), ru, rv], .bool (agB o s ag by_ K T)]) ∧ LRow w' w.heap.size w'.heap.size ru rv n m (flat2 K) (flat T) ∧ Below w.heap.size w w' := by
  have Hb := Lib.hid hb
  have Ha : Hid (agV o s ag by_ K T = ag) := Lib.hid (by rw [agV_no hb])
  clear hb
  have HK := Lib.hid hK
  have HT := Lib.hid hT
  have Hv := Lib.hid hv
  have R0 := Lib.hid hr
  obtain ⟨ad, cp, ae, cq, rfl, rfl⟩ := hr.slice
  clear hr hK hT hv
  go_enter Try.func76, Try.ntmps76
  go_wp2_with fail
  go_at_call 59
  refine (icopy_any o s ag lo hi n m _ _ K T _ HK.out HT.out (R0.out.below (B := w.heap.size) (by go_grown) (by omega)) (by first | omega | (simp; omega)) hn hm).mono ?_
  rintro e v1 ⟨ru, rv, rfl, hr1, hb1⟩
  have sz1 : w.heap.size + 2 ≤ v1.heap.size := by have hh := hb1.size; simp at hh; omega
  have st1 : Below w.heap.size w v1 := Below.trans (by go_grown) (hb1.mono (by simp <;> omega))
  have c1_0 : v1.cell? ⟨w.heap.size, 0, none⟩ = some (.int .i64 o) := by rw [(bcell hb1).1 _ _ (by simp <;> omega), old_box (by simp <;> omega)]; first | (rw [new_at (by simp)]; rfl) | simp
  have c1_1 : v1.cell? ⟨w.heap.size, 1, none⟩ = some (.int .i64 s) := by rw [(bcell hb1).1 _ _ (by simp <;> omega), old_box (by simp <;> omega)]; first | (rw [new_at (by simp)]; rfl) | simp
  have c1_2 : v1.cell? ⟨w.heap.size, 2, none⟩ = some (.int .i64 ag) := by rw [(bcell hb1).1 _ _ (by simp <;> omega), old_box (by simp <;> omega)]; first | (rw [new_at (by simp)]; rfl) | simp
  have c1_3 : v1.cell? ⟨w.heap.size, 3, none⟩ = some (.slice ad n cp) := by rw [(bcell hb1).1 _ _ (by simp <;> omega), old_box (by simp <;> omega)]; first | (rw [new_at (by simp)]; rfl) | simp
  have c1_4 : v1.cell? ⟨w.heap.size, 4, none⟩ = some (.slice ae m cq) := by rw [(bcell hb1).1 _ _ (by simp <;> omega), old_box (by simp <;> omega)]; first | (rw [new_at (by simp)]; rfl) | simp
  have c1_5 : v1.cell? ⟨w.heap.size + 1, 0, none⟩ = some (.int .i64 0) := by rw [(bcell hb1).1 _ _ (by simp)]; first | (rw [new_at (by simp)]; rfl) | simp
  have c1_6 : v1.cell? ⟨w.heap.size + 1, 1, none⟩ = some (.int .i64 0) := by rw [(bcell hb1).1 _ _ (by simp)]; first | (rw [new_at (by simp)]; rfl) | simp
  have c1_7 : v1.cell? ⟨w.heap.size + 1, 2, none⟩ = some (.int .i64 0) := by rw [(bcell hb1).1 _ _ (by simp)]; first | (rw [new_at (by simp)]; rfl) | simp
  have c1_8 : v1.cell? ⟨w.heap.size + 1, 3, none⟩ = some (.slice none 0 0) := by rw [(bcell hb1).1 _ _ (by simp)]; first | (rw [new_at (by simp)]; rfl) | simp
  have c1_9 : v1.cell? ⟨w.heap.size + 1, 4, none⟩ = some (.slice none 0 0) := by rw [(bcell hb1).1 _ _ (by simp)]; first | (rw [new_at (by simp)]; rfl) | simp
  have g1_0 : v1.frozen? ⟨w.heap.size, 0, none⟩ = false := by rw [(bcell hb1).2 _ _ (by simp <;> omega), old_frz (by simp <;> omega), new_frz (by simp)]
  have g1_1 : v1.frozen? ⟨w.heap.size, 1, none⟩ = false := by rw [(bcell hb1).2 _ _ (by simp <;> omega), old_frz (by simp <;> omega), new_frz (by simp)]
  have g1_2 : v1.frozen? ⟨w.heap.size, 2, none⟩ = false := by rw [(bcell hb1).2 _ _ (by simp <;> omega), old_frz (by simp <;> omega), new_frz (by simp)]
  have g1_3 : v1.frozen? ⟨w.heap.size, 3, none⟩ = false := by rw [(bcell hb1).2 _ _ (by simp <;> omega), old_frz (by simp <;> omega), new_frz (by simp)]
  have g1_4 : v1.frozen? ⟨w.heap.size, 4, none⟩ = false := by rw [(bcell hb1).2 _ _ (by simp <;> omega), old_frz (by simp <;> omega), new_frz (by simp)]
  have g1_5 : v1.frozen? ⟨w.heap.size + 1, 0, none⟩ = false := by rw [(bcell hb1).2 _ _ (by simp), new_frz (by simp)]
  have g1_6 : v1.frozen? ⟨w.heap.size + 1, 1, none⟩ = false := by rw [(bcell hb1).2 _ _ (by simp), new_frz (by simp)]
  have g1_7 : v1.frozen? ⟨w.heap.size + 1, 2, none⟩ = false := by rw [(bcell hb1).2 _ _ (by simp), new_frz (by simp)]
  have g1_8 : v1.frozen? ⟨w.heap.size + 1, 3, none⟩ = false := by rw [(bcell hb1).2 _ _ (by simp), new_frz (by simp)]
  have g1_9 : v1.frozen? ⟨w.heap.size + 1, 4, none⟩ = false := by rw [(bcell hb1).2 _ _ (by simp), new_frz (by simp)]
  have B1 : Hid (Below w.heap.size w v1) := st1
  have R1_0 : Hid (LRow v1 (lo) (hi) (.slice ad n cp) (.slice ae m cq) n m (flat2 K) (flat T)) := R0.out.below st1 (by omega)
  have R1_1 : Hid (LRow v1 (w.heap.size + 2) (v1.heap.size) ru rv n m (flat2 K) (flat T)) := Lib.hid (hr1.wide (by simp) (Nat.le_refl _))
  have d1_0 : w.heap.size < v1.heap.size := by omega
  have e1_0 : w.heap.size ≠ v1.heap.size := by omega
  have d1_1 : w.heap.size + 1 < v1.heap.size := by omega
  have e1_1 : w.heap.size + 1 ≠ v1.heap.size := by omega
  clear st1 R0 hb1
  obtain ⟨ra, rc, sa, sc, rfl, rfl⟩ := R1_1.out.slice
  clear hr1
  go_wp2_with fail
  go_at_call 56
  refine (ilok_any o s ag lo hi lo hi n m _ _ K T _ HK.out HT.out ((R1_0.out.below (B := v1.heap.size) (by go_grown) (by omega))).fst ((R1_0.out.below (B := v1.heap.size) (by go_grown) (by omega))).snd (by first | omega | (simp; omega)) (by first | omega | (simp; omega))).mono ?_
  rw [Hv.out]
  rintro e v2 ⟨rfl, hb2⟩
  have sz2 : v1.heap.size + 1 ≤ v2.heap.size := by have hh := hb2.size; simp at hh; omega
  have st2 : Below v1.heap.size v1 v2 := Below.trans (by go_grown) (hb2.mono (by simp))
  have c2_0 : v2.cell? ⟨w.heap.size, 0, none⟩ = some (.int .i64 o) := by rw [(bcell st2).1 _ _ (by omega)]; exact c1_0
  have c2_1 : v2.cell? ⟨w.heap.size, 1, none⟩ = some (.int .i64 s) := by rw [(bcell st2).1 _ _ (by omega)]; exact c1_1
  have c2_2 : v2.cell? ⟨w.heap.size, 2, none⟩ = some (.int .i64 ag) := by rw [(bcell st2).1 _ _ (by omega)]; exact c1_2
  have c2_3 : v2.cell? ⟨w.heap.size, 3, none⟩ = some (.slice ad n cp) := by rw [(bcell st2).1 _ _ (by omega)]; exact c1_3
  have c2_4 : v2.cell? ⟨w.heap.size, 4, none⟩ = some (.slice ae m cq) := by rw [(bcell st2).1 _ _ (by omega)]; exact c1_4
  have c2_5 : v2.cell? ⟨w.heap.size + 1, 0, none⟩ = some (.int .i64 0) := by rw [(bcell st2).1 _ _ (by omega)]; exact c1_5
  have c2_6 : v2.cell? ⟨w.heap.size + 1, 1, none⟩ = some (.int .i64 0) := by rw [(bcell st2).1 _ _ (by omega)]; exact c1_6
  have c2_7 : v2.cell? ⟨w.heap.size + 1, 2, none⟩ = some (.int .i64 0) := by rw [(bcell st2).1 _ _ (by omega)]; exact c1_7
  have c2_8 : v2.cell? ⟨w.heap.size + 1, 3, none⟩ = some (.slice none 0 0) := by rw [(bcell st2).1 _ _ (by omega)]; exact c1_8
  have c2_9 : v2.cell? ⟨w.heap.size + 1, 4, none⟩ = some (.slice none 0 0) := by rw [(bcell st2).1 _ _ (by omega)]; exact c1_9
  have c2_10 : v2.cell? ⟨v1.heap.size, 0, none⟩ = some (.int .i64 o) := by rw [(bcell hb2).1 _ _ (by simp)]; first | (rw [new_at (by simp)]; rfl) | simp
  have c2_11 : v2.cell? ⟨v1.heap.size, 1, none⟩ = some (.int .i64 s) := by rw [(bcell hb2).1 _ _ (by simp)]; first | (rw [new_at (by simp)]; rfl) | simp
  have c2_12 : v2.cell? ⟨v1.heap.size, 2, none⟩ = some (.int .i64 ag) := by rw [(bcell hb2).1 _ _ (by simp)]; first | (rw [new_at (by simp)]; rfl) | simp
  have c2_13 : v2.cell? ⟨v1.heap.size, 3, none⟩ = some (.slice ra n rc) := by rw [(bcell hb2).1 _ _ (by simp)]; first | (rw [new_at (by simp)]; rfl) | simp
  have c2_14 : v2.cell? ⟨v1.heap.size, 4, none⟩ = some (.slice sa m sc) := by rw [(bcell hb2).1 _ _ (by simp)]; first | (rw [new_at (by simp)]; rfl) | simp
  have g2_0 : v2.frozen? ⟨w.heap.size, 0, none⟩ = false := by rw [(bcell st2).2 _ _ (by omega)]; exact g1_0
  have g2_1 : v2.frozen? ⟨w.heap.size, 1, none⟩ = false := by rw [(bcell st2).2 _ _ (by omega)]; exact g1_1
  have g2_2 : v2.frozen? ⟨w.heap.size, 2, none⟩ = false := by rw [(bcell st2).2 _ _ (by omega)]; exact g1_2
  have g2_3 : v2.frozen? ⟨w.heap.size, 3, none⟩ = false := by rw [(bcell st2).2 _ _ (by omega)]; exact g1_3
  have g2_4 : v2.frozen? ⟨w.heap.size, 4, none⟩ = false := by rw [(bcell st2).2 _ _ (by omega)]; exact g1_4
  have g2_5 : v2.frozen? ⟨w.heap.size + 1, 0, none⟩ = false := by rw [(bcell st2).2 _ _ (by omega)]; exact g1_5
  have g2_6 : v2.frozen? ⟨w.heap.size + 1, 1, none⟩ = false := by rw [(bcell st2).2 _ _ (by omega)]; exact g1_6
  have g2_7 : v2.frozen? ⟨w.heap.size + 1, 2, none⟩ = false := by rw [(bcell st2).2 _ _ (by omega)]; exact g1_7
  have g2_8 : v2.frozen? ⟨w.heap.size + 1, 3, none⟩ = false := by rw [(bcell st2).2 _ _ (by omega)]; exact g1_8
  have g2_9 : v2.frozen? ⟨w.heap.size + 1, 4, none⟩ = false := by rw [(bcell st2).2 _ _ (by omega)]; exact g1_9
  have g2_10 : v2.frozen? ⟨v1.heap.size, 0, none⟩ = false := by rw [(bcell hb2).2 _ _ (by simp), new_frz (by simp)]
  have g2_11 : v2.frozen? ⟨v1.heap.size, 1, none⟩ = false := by rw [(bcell hb2).2 _ _ (by simp), new_frz (by simp)]
  have g2_12 : v2.frozen? ⟨v1.heap.size, 2, none⟩ = false := by rw [(bcell hb2).2 _ _ (by simp), new_frz (by simp)]
  have g2_13 : v2.frozen? ⟨v1.heap.size, 3, none⟩ = false := by rw [(bcell hb2).2 _ _ (by simp), new_frz (by simp)]
  have g2_14 : v2.frozen? ⟨v1.heap.size, 4, none⟩ = false := by rw [(bcell hb2).2 _ _ (by simp), new_frz (by simp)]
  have B2 : Hid (Below w.heap.size w v2) := B1.out.trans (st2.mono (by omega))
  have R2_0 : Hid (LRow v2 (lo) (hi) (.slice ad n cp) (.slice ae m cq) n m (flat2 K) (flat T)) := R1_0.out.below st2 (by omega)
  have R2_1 : Hid (LRow v2 (w.heap.size + 2) (v1.heap.size) (.slice ra n rc) (.slice sa m sc) n m (flat2 K) (flat T)) := R1_1.out.below st2 (by omega)
  have d2_0 : w.heap.size < v2.heap.size := by omega
  have e2_0 : w.heap.size ≠ v2.heap.size := by omega
  have d2_1 : w.heap.size + 1 < v2.heap.size := by omega
  have e2_1 : w.heap.size + 1 ≠ v2.heap.size := by omega
  have d2_2 : v1.heap.size < v2.heap.size := by omega
  have e2_2 : v1.heap.size ≠ v2.heap.size := by omega
  clear d1_0 e1_0 d1_1 e1_1 c1_0 c1_1 c1_2 c1_3 c1_4 c1_5 c1_6 c1_7 c1_8 c1_9 g1_0 g1_1 g1_2 g1_3 g1_4 g1_5 g1_6 g1_7 g1_8 g1_9 B1 st2 R1_0 R1_1 hb2
  go_wp2_with fail
  refine bodyPost_ret (v := .tuple #[.agg #[.int .i64 o, .int .i64 s, .int .i64 (ag), .slice ra n rc, .slice sa m sc], .bool false]) (by simp [results, Try.results76, go_sem, *]) rfl ⟨_, _, by rw [Hb.out, Ha.out], ?_, ?_⟩
  · exact ((((((R2_1.out.setCell (.inl (by simp <;> omega)) _).setCell (.inl (by simp <;> omega)) _).setCell (.inl (by simp <;> omega)) _).setCell (.inl (by simp <;> omega)) _).setCell (.inl (by simp <;> omega)) _).wide (by omega) (by simp [World.setCell] <;> omega))
  · exact ((((B2.out.setCell (by simp <;> omega) _).setCell (by simp <;> omega) _).setCell (by simp <;> omega) _).setCell (by simp <;> omega) _).setCell (by simp <;> omega) _

set_option linter.unusedVariables false in
set_option maxRecDepth 100000 in
set_option maxHeartbeats 4000000 in
theorem iage_1 (o s ag by_ : Int) (lo hi n m : Nat) (u v : Value) (K : List Lk) (T : List Ed) (w : World) (hK : K.length = n) (hT : T.length = m) (hr : LRow w lo hi u v n m (flat2 K) (flat T)) (hh : hi ≤ w.heap.size) (hn : n ≤ 1048576) (hm : m ≤ 1048576) (hv : lokB o s ag K T = true) (h1 : by_ < 0) (hb : agB o s ag by_ K T = false) :
    Calls Try.prog 76 #[.agg #[.int .i64 o, .int .i64 s, .int .i64 ag, u, v], .int .i64 by_] w fun e w' => ∃ ru rv, e = .returned (.tuple #[.agg #[.int .i64 o, .int .i64 s, .int .i64 (agV o s ag by_ K T), ru, rv], .bool (agB o s ag by_ K T)]) ∧ LRow w' w.heap.size w'.heap.size ru rv n m (flat2 K) (flat T) ∧ Below w.heap.size w w' := by
  have Hb := Lib.hid hb
  have Ha : Hid (agV o s ag by_ K T = ag) := Lib.hid (by rw [agV_no hb])
  clear hb
  have HK := Lib.hid hK
  have HT := Lib.hid hT
  have Hv := Lib.hid hv
  have R0 := Lib.hid hr
  obtain ⟨ad, cp, ae, cq, rfl, rfl⟩ := hr.slice
  clear hr hK hT hv
  go_enter Try.func76, Try.ntmps76
  go_wp2_with fail
  go_at_call 59
  refine (icopy_any o s ag lo hi n m _ _ K T _ HK.out HT.out (R0.out.below (B := w.heap.size) (by go_grown) (by omega)) (by first | omega | (simp; omega)) hn hm).mono ?_
  rintro e v1 ⟨ru, rv, rfl, hr1, hb1⟩
  have sz1 : w.heap.size + 2 ≤ v1.heap.size := by have hh := hb1.size; simp at hh; omega
  have st1 : Below w.heap.size w v1 := Below.trans (by go_grown) (hb1.mono (by simp <;> omega))
  have c1_0 : v1.cell? ⟨w.heap.size, 0, none⟩ = some (.int .i64 o) := by rw [(bcell hb1).1 _ _ (by simp <;> omega), old_box (by simp <;> omega)]; first | (rw [new_at (by simp)]; rfl) | simp
  have c1_1 : v1.cell? ⟨w.heap.size, 1, none⟩ = some (.int .i64 s) := by rw [(bcell hb1).1 _ _ (by simp <;> omega), old_box (by simp <;> omega)]; first | (rw [new_at (by simp)]; rfl) | simp
  have c1_2 : v1.cell? ⟨w.heap.size, 2, none⟩ = some (.int .i64 ag) := by rw [(bcell hb1).1 _ _ (by simp <;> omega), old_box (by simp <;> omega)]; first | (rw [new_at (by simp)]; rfl) | simp
  have c1_3 : v1.cell? ⟨w.heap.size, 3, none⟩ = some (.slice ad n cp) := by rw [(bcell hb1).1 _ _ (by simp <;> omega), old_box (by simp <;> omega)]; first | (rw [new_at (by simp)]; rfl) | simp
  have c1_4 : v1.cell? ⟨w.heap.size, 4, none⟩ = some (.slice ae m cq) := by rw [(bcell hb1).1 _ _ (by simp <;> omega), old_box (by simp <;> omega)]; first | (rw [new_at (by simp)]; rfl) | simp
  have c1_5 : v1.cell? ⟨w.heap.size + 1, 0, none⟩ = some (.int .i64 0) := by rw [(bcell hb1).1 _ _ (by simp)]; first | (rw [new_at (by simp)]; rfl) | simp
  have c1_6 : v1.cell? ⟨w.heap.size + 1, 1, none⟩ = some (.int .i64 0) := by rw [(bcell hb1).1 _ _ (by simp)]; first | (rw [new_at (by simp)]; rfl) | simp
  have c1_7 : v1.cell? ⟨w.heap.size + 1, 2, none⟩ = some (.int .i64 0) := by rw [(bcell hb1).1 _ _ (by simp)]; first | (rw [new_at (by simp)]; rfl) | simp
  have c1_8 : v1.cell? ⟨w.heap.size + 1, 3, none⟩ = some (.slice none 0 0) := by rw [(bcell hb1).1 _ _ (by simp)]; first | (rw [new_at (by simp)]; rfl) | simp
  have c1_9 : v1.cell? ⟨w.heap.size + 1, 4, none⟩ = some (.slice none 0 0) := by rw [(bcell hb1).1 _ _ (by simp)]; first | (rw [new_at (by simp)]; rfl) | simp
  have g1_0 : v1.frozen? ⟨w.heap.size, 0, none⟩ = false := by rw [(bcell hb1).2 _ _ (by simp <;> omega), old_frz (by simp <;> omega), new_frz (by simp)]
  have g1_1 : v1.frozen? ⟨w.heap.size, 1, none⟩ = false := by rw [(bcell hb1).2 _ _ (by simp <;> omega), old_frz (by simp <;> omega), new_frz (by simp)]
  have g1_2 : v1.frozen? ⟨w.heap.size, 2, none⟩ = false := by rw [(bcell hb1).2 _ _ (by simp <;> omega), old_frz (by simp <;> omega), new_frz (by simp)]
  have g1_3 : v1.frozen? ⟨w.heap.size, 3, none⟩ = false := by rw [(bcell hb1).2 _ _ (by simp <;> omega), old_frz (by simp <;> omega), new_frz (by simp)]
  have g1_4 : v1.frozen? ⟨w.heap.size, 4, none⟩ = false := by rw [(bcell hb1).2 _ _ (by simp <;> omega), old_frz (by simp <;> omega), new_frz (by simp)]
  have g1_5 : v1.frozen? ⟨w.heap.size + 1, 0, none⟩ = false := by rw [(bcell hb1).2 _ _ (by simp), new_frz (by simp)]
  have g1_6 : v1.frozen? ⟨w.heap.size + 1, 1, none⟩ = false := by rw [(bcell hb1).2 _ _ (by simp), new_frz (by simp)]
  have g1_7 : v1.frozen? ⟨w.heap.size + 1, 2, none⟩ = false := by rw [(bcell hb1).2 _ _ (by simp), new_frz (by simp)]
  have g1_8 : v1.frozen? ⟨w.heap.size + 1, 3, none⟩ = false := by rw [(bcell hb1).2 _ _ (by simp), new_frz (by simp)]
  have g1_9 : v1.frozen? ⟨w.heap.size + 1, 4, none⟩ = false := by rw [(bcell hb1).2 _ _ (by simp), new_frz (by simp)]
  have B1 : Hid (Below w.heap.size w v1) := st1
  have R1_0 : Hid (LRow v1 (lo) (hi) (.slice ad n cp) (.slice ae m cq) n m (flat2 K) (flat T)) := R0.out.below st1 (by omega)
  have R1_1 : Hid (LRow v1 (w.heap.size + 2) (v1.heap.size) ru rv n m (flat2 K) (flat T)) := Lib.hid (hr1.wide (by simp) (Nat.le_refl _))
  have d1_0 : w.heap.size < v1.heap.size := by omega
  have e1_0 : w.heap.size ≠ v1.heap.size := by omega
  have d1_1 : w.heap.size + 1 < v1.heap.size := by omega
  have e1_1 : w.heap.size + 1 ≠ v1.heap.size := by omega
  clear st1 R0 hb1
  obtain ⟨ra, rc, sa, sc, rfl, rfl⟩ := R1_1.out.slice
  clear hr1
  go_wp2_with fail
  go_at_call 56
  refine (ilok_any o s ag lo hi lo hi n m _ _ K T _ HK.out HT.out ((R1_0.out.below (B := v1.heap.size) (by go_grown) (by omega))).fst ((R1_0.out.below (B := v1.heap.size) (by go_grown) (by omega))).snd (by first | omega | (simp; omega)) (by first | omega | (simp; omega))).mono ?_
  rw [Hv.out]
  rintro e v2 ⟨rfl, hb2⟩
  have sz2 : v1.heap.size + 1 ≤ v2.heap.size := by have hh := hb2.size; simp at hh; omega
  have st2 : Below v1.heap.size v1 v2 := Below.trans (by go_grown) (hb2.mono (by simp))
  have c2_0 : v2.cell? ⟨w.heap.size, 0, none⟩ = some (.int .i64 o) := by rw [(bcell st2).1 _ _ (by omega)]; exact c1_0
  have c2_1 : v2.cell? ⟨w.heap.size, 1, none⟩ = some (.int .i64 s) := by rw [(bcell st2).1 _ _ (by omega)]; exact c1_1
  have c2_2 : v2.cell? ⟨w.heap.size, 2, none⟩ = some (.int .i64 ag) := by rw [(bcell st2).1 _ _ (by omega)]; exact c1_2
  have c2_3 : v2.cell? ⟨w.heap.size, 3, none⟩ = some (.slice ad n cp) := by rw [(bcell st2).1 _ _ (by omega)]; exact c1_3
  have c2_4 : v2.cell? ⟨w.heap.size, 4, none⟩ = some (.slice ae m cq) := by rw [(bcell st2).1 _ _ (by omega)]; exact c1_4
  have c2_5 : v2.cell? ⟨w.heap.size + 1, 0, none⟩ = some (.int .i64 0) := by rw [(bcell st2).1 _ _ (by omega)]; exact c1_5
  have c2_6 : v2.cell? ⟨w.heap.size + 1, 1, none⟩ = some (.int .i64 0) := by rw [(bcell st2).1 _ _ (by omega)]; exact c1_6
  have c2_7 : v2.cell? ⟨w.heap.size + 1, 2, none⟩ = some (.int .i64 0) := by rw [(bcell st2).1 _ _ (by omega)]; exact c1_7
  have c2_8 : v2.cell? ⟨w.heap.size + 1, 3, none⟩ = some (.slice none 0 0) := by rw [(bcell st2).1 _ _ (by omega)]; exact c1_8
  have c2_9 : v2.cell? ⟨w.heap.size + 1, 4, none⟩ = some (.slice none 0 0) := by rw [(bcell st2).1 _ _ (by omega)]; exact c1_9
  have c2_10 : v2.cell? ⟨v1.heap.size, 0, none⟩ = some (.int .i64 o) := by rw [(bcell hb2).1 _ _ (by simp)]; first | (rw [new_at (by simp)]; rfl) | simp
  have c2_11 : v2.cell? ⟨v1.heap.size, 1, none⟩ = some (.int .i64 s) := by rw [(bcell hb2).1 _ _ (by simp)]; first | (rw [new_at (by simp)]; rfl) | simp
  have c2_12 : v2.cell? ⟨v1.heap.size, 2, none⟩ = some (.int .i64 ag) := by rw [(bcell hb2).1 _ _ (by simp)]; first | (rw [new_at (by simp)]; rfl) | simp
  have c2_13 : v2.cell? ⟨v1.heap.size, 3, none⟩ = some (.slice ra n rc) := by rw [(bcell hb2).1 _ _ (by simp)]; first | (rw [new_at (by simp)]; rfl) | simp
  have c2_14 : v2.cell? ⟨v1.heap.size, 4, none⟩ = some (.slice sa m sc) := by rw [(bcell hb2).1 _ _ (by simp)]; first | (rw [new_at (by simp)]; rfl) | simp
  have g2_0 : v2.frozen? ⟨w.heap.size, 0, none⟩ = false := by rw [(bcell st2).2 _ _ (by omega)]; exact g1_0
  have g2_1 : v2.frozen? ⟨w.heap.size, 1, none⟩ = false := by rw [(bcell st2).2 _ _ (by omega)]; exact g1_1
  have g2_2 : v2.frozen? ⟨w.heap.size, 2, none⟩ = false := by rw [(bcell st2).2 _ _ (by omega)]; exact g1_2
  have g2_3 : v2.frozen? ⟨w.heap.size, 3, none⟩ = false := by rw [(bcell st2).2 _ _ (by omega)]; exact g1_3
  have g2_4 : v2.frozen? ⟨w.heap.size, 4, none⟩ = false := by rw [(bcell st2).2 _ _ (by omega)]; exact g1_4
  have g2_5 : v2.frozen? ⟨w.heap.size + 1, 0, none⟩ = false := by rw [(bcell st2).2 _ _ (by omega)]; exact g1_5
  have g2_6 : v2.frozen? ⟨w.heap.size + 1, 1, none⟩ = false := by rw [(bcell st2).2 _ _ (by omega)]; exact g1_6
  have g2_7 : v2.frozen? ⟨w.heap.size + 1, 2, none⟩ = false := by rw [(bcell st2).2 _ _ (by omega)]; exact g1_7
  have g2_8 : v2.frozen? ⟨w.heap.size + 1, 3, none⟩ = false := by rw [(bcell st2).2 _ _ (by omega)]; exact g1_8
  have g2_9 : v2.frozen? ⟨w.heap.size + 1, 4, none⟩ = false := by rw [(bcell st2).2 _ _ (by omega)]; exact g1_9
  have g2_10 : v2.frozen? ⟨v1.heap.size, 0, none⟩ = false := by rw [(bcell hb2).2 _ _ (by simp), new_frz (by simp)]
  have g2_11 : v2.frozen? ⟨v1.heap.size, 1, none⟩ = false := by rw [(bcell hb2).2 _ _ (by simp), new_frz (by simp)]
  have g2_12 : v2.frozen? ⟨v1.heap.size, 2, none⟩ = false := by rw [(bcell hb2).2 _ _ (by simp), new_frz (by simp)]
  have g2_13 : v2.frozen? ⟨v1.heap.size, 3, none⟩ = false := by rw [(bcell hb2).2 _ _ (by simp), new_frz (by simp)]
  have g2_14 : v2.frozen? ⟨v1.heap.size, 4, none⟩ = false := by rw [(bcell hb2).2 _ _ (by simp), new_frz (by simp)]
  have B2 : Hid (Below w.heap.size w v2) := B1.out.trans (st2.mono (by omega))
  have R2_0 : Hid (LRow v2 (lo) (hi) (.slice ad n cp) (.slice ae m cq) n m (flat2 K) (flat T)) := R1_0.out.below st2 (by omega)
  have R2_1 : Hid (LRow v2 (w.heap.size + 2) (v1.heap.size) (.slice ra n rc) (.slice sa m sc) n m (flat2 K) (flat T)) := R1_1.out.below st2 (by omega)
  have d2_0 : w.heap.size < v2.heap.size := by omega
  have e2_0 : w.heap.size ≠ v2.heap.size := by omega
  have d2_1 : w.heap.size + 1 < v2.heap.size := by omega
  have e2_1 : w.heap.size + 1 ≠ v2.heap.size := by omega
  have d2_2 : v1.heap.size < v2.heap.size := by omega
  have e2_2 : v1.heap.size ≠ v2.heap.size := by omega
  clear d1_0 e1_0 d1_1 e1_1 c1_0 c1_1 c1_2 c1_3 c1_4 c1_5 c1_6 c1_7 c1_8 c1_9 g1_0 g1_1 g1_2 g1_3 g1_4 g1_5 g1_6 g1_7 g1_8 g1_9 B1 st2 R1_0 R1_1 hb2
  go_wp2_with fail
  refine bodyPost_ret (v := .tuple #[.agg #[.int .i64 o, .int .i64 s, .int .i64 (ag), .slice ra n rc, .slice sa m sc], .bool false]) (by simp [results, Try.results76, go_sem, *]) rfl ⟨_, _, by rw [Hb.out, Ha.out], ?_, ?_⟩
  · exact ((((((R2_1.out.setCell (.inl (by simp <;> omega)) _).setCell (.inl (by simp <;> omega)) _).setCell (.inl (by simp <;> omega)) _).setCell (.inl (by simp <;> omega)) _).setCell (.inl (by simp <;> omega)) _).wide (by omega) (by simp [World.setCell] <;> omega))
  · exact ((((B2.out.setCell (by simp <;> omega) _).setCell (by simp <;> omega) _).setCell (by simp <;> omega) _).setCell (by simp <;> omega) _).setCell (by simp <;> omega) _

set_option linter.unusedVariables false in
set_option maxRecDepth 100000 in
set_option maxHeartbeats 4000000 in
theorem iage_2 (o s ag by_ : Int) (lo hi n m : Nat) (u v : Value) (K : List Lk) (T : List Ed) (w : World) (hK : K.length = n) (hT : T.length = m) (hr : LRow w lo hi u v n m (flat2 K) (flat T)) (hh : hi ≤ w.heap.size) (hn : n ≤ 1048576) (hm : m ≤ 1048576) (hv : lokB o s ag K T = true) (h1 : ¬ by_ < 0) (h2 : 60 < by_) (hb : agB o s ag by_ K T = false) :
    Calls Try.prog 76 #[.agg #[.int .i64 o, .int .i64 s, .int .i64 ag, u, v], .int .i64 by_] w fun e w' => ∃ ru rv, e = .returned (.tuple #[.agg #[.int .i64 o, .int .i64 s, .int .i64 (agV o s ag by_ K T), ru, rv], .bool (agB o s ag by_ K T)]) ∧ LRow w' w.heap.size w'.heap.size ru rv n m (flat2 K) (flat T) ∧ Below w.heap.size w w' := by
  have Hb := Lib.hid hb
  have Ha : Hid (agV o s ag by_ K T = ag) := Lib.hid (by rw [agV_no hb])
  clear hb
  have HK := Lib.hid hK
  have HT := Lib.hid hT
  have Hv := Lib.hid hv
  have R0 := Lib.hid hr
  obtain ⟨ad, cp, ae, cq, rfl, rfl⟩ := hr.slice
  clear hr hK hT hv
  go_enter Try.func76, Try.ntmps76
  go_wp2_with fail
  go_at_call 59
  refine (icopy_any o s ag lo hi n m _ _ K T _ HK.out HT.out (R0.out.below (B := w.heap.size) (by go_grown) (by omega)) (by first | omega | (simp; omega)) hn hm).mono ?_
  rintro e v1 ⟨ru, rv, rfl, hr1, hb1⟩
  have sz1 : w.heap.size + 2 ≤ v1.heap.size := by have hh := hb1.size; simp at hh; omega
  have st1 : Below w.heap.size w v1 := Below.trans (by go_grown) (hb1.mono (by simp <;> omega))
  have c1_0 : v1.cell? ⟨w.heap.size, 0, none⟩ = some (.int .i64 o) := by rw [(bcell hb1).1 _ _ (by simp <;> omega), old_box (by simp <;> omega)]; first | (rw [new_at (by simp)]; rfl) | simp
  have c1_1 : v1.cell? ⟨w.heap.size, 1, none⟩ = some (.int .i64 s) := by rw [(bcell hb1).1 _ _ (by simp <;> omega), old_box (by simp <;> omega)]; first | (rw [new_at (by simp)]; rfl) | simp
  have c1_2 : v1.cell? ⟨w.heap.size, 2, none⟩ = some (.int .i64 ag) := by rw [(bcell hb1).1 _ _ (by simp <;> omega), old_box (by simp <;> omega)]; first | (rw [new_at (by simp)]; rfl) | simp
  have c1_3 : v1.cell? ⟨w.heap.size, 3, none⟩ = some (.slice ad n cp) := by rw [(bcell hb1).1 _ _ (by simp <;> omega), old_box (by simp <;> omega)]; first | (rw [new_at (by simp)]; rfl) | simp
  have c1_4 : v1.cell? ⟨w.heap.size, 4, none⟩ = some (.slice ae m cq) := by rw [(bcell hb1).1 _ _ (by simp <;> omega), old_box (by simp <;> omega)]; first | (rw [new_at (by simp)]; rfl) | simp
  have c1_5 : v1.cell? ⟨w.heap.size + 1, 0, none⟩ = some (.int .i64 0) := by rw [(bcell hb1).1 _ _ (by simp)]; first | (rw [new_at (by simp)]; rfl) | simp
  have c1_6 : v1.cell? ⟨w.heap.size + 1, 1, none⟩ = some (.int .i64 0) := by rw [(bcell hb1).1 _ _ (by simp)]; first | (rw [new_at (by simp)]; rfl) | simp
  have c1_7 : v1.cell? ⟨w.heap.size + 1, 2, none⟩ = some (.int .i64 0) := by rw [(bcell hb1).1 _ _ (by simp)]; first | (rw [new_at (by simp)]; rfl) | simp
  have c1_8 : v1.cell? ⟨w.heap.size + 1, 3, none⟩ = some (.slice none 0 0) := by rw [(bcell hb1).1 _ _ (by simp)]; first | (rw [new_at (by simp)]; rfl) | simp
  have c1_9 : v1.cell? ⟨w.heap.size + 1, 4, none⟩ = some (.slice none 0 0) := by rw [(bcell hb1).1 _ _ (by simp)]; first | (rw [new_at (by simp)]; rfl) | simp
  have g1_0 : v1.frozen? ⟨w.heap.size, 0, none⟩ = false := by rw [(bcell hb1).2 _ _ (by simp <;> omega), old_frz (by simp <;> omega), new_frz (by simp)]
  have g1_1 : v1.frozen? ⟨w.heap.size, 1, none⟩ = false := by rw [(bcell hb1).2 _ _ (by simp <;> omega), old_frz (by simp <;> omega), new_frz (by simp)]
  have g1_2 : v1.frozen? ⟨w.heap.size, 2, none⟩ = false := by rw [(bcell hb1).2 _ _ (by simp <;> omega), old_frz (by simp <;> omega), new_frz (by simp)]
  have g1_3 : v1.frozen? ⟨w.heap.size, 3, none⟩ = false := by rw [(bcell hb1).2 _ _ (by simp <;> omega), old_frz (by simp <;> omega), new_frz (by simp)]
  have g1_4 : v1.frozen? ⟨w.heap.size, 4, none⟩ = false := by rw [(bcell hb1).2 _ _ (by simp <;> omega), old_frz (by simp <;> omega), new_frz (by simp)]
  have g1_5 : v1.frozen? ⟨w.heap.size + 1, 0, none⟩ = false := by rw [(bcell hb1).2 _ _ (by simp), new_frz (by simp)]
  have g1_6 : v1.frozen? ⟨w.heap.size + 1, 1, none⟩ = false := by rw [(bcell hb1).2 _ _ (by simp), new_frz (by simp)]
  have g1_7 : v1.frozen? ⟨w.heap.size + 1, 2, none⟩ = false := by rw [(bcell hb1).2 _ _ (by simp), new_frz (by simp)]
  have g1_8 : v1.frozen? ⟨w.heap.size + 1, 3, none⟩ = false := by rw [(bcell hb1).2 _ _ (by simp), new_frz (by simp)]
  have g1_9 : v1.frozen? ⟨w.heap.size + 1, 4, none⟩ = false := by rw [(bcell hb1).2 _ _ (by simp), new_frz (by simp)]
  have B1 : Hid (Below w.heap.size w v1) := st1
  have R1_0 : Hid (LRow v1 (lo) (hi) (.slice ad n cp) (.slice ae m cq) n m (flat2 K) (flat T)) := R0.out.below st1 (by omega)
  have R1_1 : Hid (LRow v1 (w.heap.size + 2) (v1.heap.size) ru rv n m (flat2 K) (flat T)) := Lib.hid (hr1.wide (by simp) (Nat.le_refl _))
  have d1_0 : w.heap.size < v1.heap.size := by omega
  have e1_0 : w.heap.size ≠ v1.heap.size := by omega
  have d1_1 : w.heap.size + 1 < v1.heap.size := by omega
  have e1_1 : w.heap.size + 1 ≠ v1.heap.size := by omega
  clear st1 R0 hb1
  obtain ⟨ra, rc, sa, sc, rfl, rfl⟩ := R1_1.out.slice
  clear hr1
  go_wp2_with fail
  go_at_call 56
  refine (ilok_any o s ag lo hi lo hi n m _ _ K T _ HK.out HT.out ((R1_0.out.below (B := v1.heap.size) (by go_grown) (by omega))).fst ((R1_0.out.below (B := v1.heap.size) (by go_grown) (by omega))).snd (by first | omega | (simp; omega)) (by first | omega | (simp; omega))).mono ?_
  rw [Hv.out]
  rintro e v2 ⟨rfl, hb2⟩
  have sz2 : v1.heap.size + 1 ≤ v2.heap.size := by have hh := hb2.size; simp at hh; omega
  have st2 : Below v1.heap.size v1 v2 := Below.trans (by go_grown) (hb2.mono (by simp))
  have c2_0 : v2.cell? ⟨w.heap.size, 0, none⟩ = some (.int .i64 o) := by rw [(bcell st2).1 _ _ (by omega)]; exact c1_0
  have c2_1 : v2.cell? ⟨w.heap.size, 1, none⟩ = some (.int .i64 s) := by rw [(bcell st2).1 _ _ (by omega)]; exact c1_1
  have c2_2 : v2.cell? ⟨w.heap.size, 2, none⟩ = some (.int .i64 ag) := by rw [(bcell st2).1 _ _ (by omega)]; exact c1_2
  have c2_3 : v2.cell? ⟨w.heap.size, 3, none⟩ = some (.slice ad n cp) := by rw [(bcell st2).1 _ _ (by omega)]; exact c1_3
  have c2_4 : v2.cell? ⟨w.heap.size, 4, none⟩ = some (.slice ae m cq) := by rw [(bcell st2).1 _ _ (by omega)]; exact c1_4
  have c2_5 : v2.cell? ⟨w.heap.size + 1, 0, none⟩ = some (.int .i64 0) := by rw [(bcell st2).1 _ _ (by omega)]; exact c1_5
  have c2_6 : v2.cell? ⟨w.heap.size + 1, 1, none⟩ = some (.int .i64 0) := by rw [(bcell st2).1 _ _ (by omega)]; exact c1_6
  have c2_7 : v2.cell? ⟨w.heap.size + 1, 2, none⟩ = some (.int .i64 0) := by rw [(bcell st2).1 _ _ (by omega)]; exact c1_7
  have c2_8 : v2.cell? ⟨w.heap.size + 1, 3, none⟩ = some (.slice none 0 0) := by rw [(bcell st2).1 _ _ (by omega)]; exact c1_8
  have c2_9 : v2.cell? ⟨w.heap.size + 1, 4, none⟩ = some (.slice none 0 0) := by rw [(bcell st2).1 _ _ (by omega)]; exact c1_9
  have c2_10 : v2.cell? ⟨v1.heap.size, 0, none⟩ = some (.int .i64 o) := by rw [(bcell hb2).1 _ _ (by simp)]; first | (rw [new_at (by simp)]; rfl) | simp
  have c2_11 : v2.cell? ⟨v1.heap.size, 1, none⟩ = some (.int .i64 s) := by rw [(bcell hb2).1 _ _ (by simp)]; first | (rw [new_at (by simp)]; rfl) | simp
  have c2_12 : v2.cell? ⟨v1.heap.size, 2, none⟩ = some (.int .i64 ag) := by rw [(bcell hb2).1 _ _ (by simp)]; first | (rw [new_at (by simp)]; rfl) | simp
  have c2_13 : v2.cell? ⟨v1.heap.size, 3, none⟩ = some (.slice ra n rc) := by rw [(bcell hb2).1 _ _ (by simp)]; first | (rw [new_at (by simp)]; rfl) | simp
  have c2_14 : v2.cell? ⟨v1.heap.size, 4, none⟩ = some (.slice sa m sc) := by rw [(bcell hb2).1 _ _ (by simp)]; first | (rw [new_at (by simp)]; rfl) | simp
  have g2_0 : v2.frozen? ⟨w.heap.size, 0, none⟩ = false := by rw [(bcell st2).2 _ _ (by omega)]; exact g1_0
  have g2_1 : v2.frozen? ⟨w.heap.size, 1, none⟩ = false := by rw [(bcell st2).2 _ _ (by omega)]; exact g1_1
  have g2_2 : v2.frozen? ⟨w.heap.size, 2, none⟩ = false := by rw [(bcell st2).2 _ _ (by omega)]; exact g1_2
  have g2_3 : v2.frozen? ⟨w.heap.size, 3, none⟩ = false := by rw [(bcell st2).2 _ _ (by omega)]; exact g1_3
  have g2_4 : v2.frozen? ⟨w.heap.size, 4, none⟩ = false := by rw [(bcell st2).2 _ _ (by omega)]; exact g1_4
  have g2_5 : v2.frozen? ⟨w.heap.size + 1, 0, none⟩ = false := by rw [(bcell st2).2 _ _ (by omega)]; exact g1_5
  have g2_6 : v2.frozen? ⟨w.heap.size + 1, 1, none⟩ = false := by rw [(bcell st2).2 _ _ (by omega)]; exact g1_6
  have g2_7 : v2.frozen? ⟨w.heap.size + 1, 2, none⟩ = false := by rw [(bcell st2).2 _ _ (by omega)]; exact g1_7
  have g2_8 : v2.frozen? ⟨w.heap.size + 1, 3, none⟩ = false := by rw [(bcell st2).2 _ _ (by omega)]; exact g1_8
  have g2_9 : v2.frozen? ⟨w.heap.size + 1, 4, none⟩ = false := by rw [(bcell st2).2 _ _ (by omega)]; exact g1_9
  have g2_10 : v2.frozen? ⟨v1.heap.size, 0, none⟩ = false := by rw [(bcell hb2).2 _ _ (by simp), new_frz (by simp)]
  have g2_11 : v2.frozen? ⟨v1.heap.size, 1, none⟩ = false := by rw [(bcell hb2).2 _ _ (by simp), new_frz (by simp)]
  have g2_12 : v2.frozen? ⟨v1.heap.size, 2, none⟩ = false := by rw [(bcell hb2).2 _ _ (by simp), new_frz (by simp)]
  have g2_13 : v2.frozen? ⟨v1.heap.size, 3, none⟩ = false := by rw [(bcell hb2).2 _ _ (by simp), new_frz (by simp)]
  have g2_14 : v2.frozen? ⟨v1.heap.size, 4, none⟩ = false := by rw [(bcell hb2).2 _ _ (by simp), new_frz (by simp)]
  have B2 : Hid (Below w.heap.size w v2) := B1.out.trans (st2.mono (by omega))
  have R2_0 : Hid (LRow v2 (lo) (hi) (.slice ad n cp) (.slice ae m cq) n m (flat2 K) (flat T)) := R1_0.out.below st2 (by omega)
  have R2_1 : Hid (LRow v2 (w.heap.size + 2) (v1.heap.size) (.slice ra n rc) (.slice sa m sc) n m (flat2 K) (flat T)) := R1_1.out.below st2 (by omega)
  have d2_0 : w.heap.size < v2.heap.size := by omega
  have e2_0 : w.heap.size ≠ v2.heap.size := by omega
  have d2_1 : w.heap.size + 1 < v2.heap.size := by omega
  have e2_1 : w.heap.size + 1 ≠ v2.heap.size := by omega
  have d2_2 : v1.heap.size < v2.heap.size := by omega
  have e2_2 : v1.heap.size ≠ v2.heap.size := by omega
  clear d1_0 e1_0 d1_1 e1_1 c1_0 c1_1 c1_2 c1_3 c1_4 c1_5 c1_6 c1_7 c1_8 c1_9 g1_0 g1_1 g1_2 g1_3 g1_4 g1_5 g1_6 g1_7 g1_8 g1_9 B1 st2 R1_0 R1_1 hb2
  go_wp2_with fail
  refine bodyPost_ret (v := .tuple #[.agg #[.int .i64 o, .int .i64 s, .int .i64 (ag), .slice ra n rc, .slice sa m sc], .bool false]) (by simp [results, Try.results76, go_sem, *]) rfl ⟨_, _, by rw [Hb.out, Ha.out], ?_, ?_⟩
  · exact ((((((R2_1.out.setCell (.inl (by simp <;> omega)) _).setCell (.inl (by simp <;> omega)) _).setCell (.inl (by simp <;> omega)) _).setCell (.inl (by simp <;> omega)) _).setCell (.inl (by simp <;> omega)) _).wide (by omega) (by simp [World.setCell] <;> omega))
  · exact ((((B2.out.setCell (by simp <;> omega) _).setCell (by simp <;> omega) _).setCell (by simp <;> omega) _).setCell (by simp <;> omega) _).setCell (by simp <;> omega) _

set_option linter.unusedVariables false in
set_option maxRecDepth 100000 in
set_option maxHeartbeats 4000000 in
theorem iage_3 (o s ag by_ : Int) (lo hi n m : Nat) (u v : Value) (K : List Lk) (T : List Ed) (w : World) (hK : K.length = n) (hT : T.length = m) (hr : LRow w lo hi u v n m (flat2 K) (flat T)) (hh : hi ≤ w.heap.size) (hn : n ≤ 1048576) (hm : m ≤ 1048576) (hv : lokB o s ag K T = true) (h1 : ¬ by_ < 0) (h2 : ¬ 60 < by_) (h5 : ¬ 60 < ag + by_) (hb : agB o s ag by_ K T = true) :
    Calls Try.prog 76 #[.agg #[.int .i64 o, .int .i64 s, .int .i64 ag, u, v], .int .i64 by_] w fun e w' => ∃ ru rv, e = .returned (.tuple #[.agg #[.int .i64 o, .int .i64 s, .int .i64 (agV o s ag by_ K T), ru, rv], .bool (agB o s ag by_ K T)]) ∧ LRow w' w.heap.size w'.heap.size ru rv n m (flat2 K) (flat T) ∧ Below w.heap.size w w' := by
  have hg := lok_bd' hv
  obtain ⟨ga, gb⟩ := hg
  have hbb : 0 ≤ by_ ∧ by_ ≤ 60 := ⟨by omega, by omega⟩
  obtain ⟨bb0, bb1⟩ := hbb
  have Hb := Lib.hid hb
  have Ha : Hid (agV o s ag by_ K T = ag + by_) := Lib.hid (by rw [agV_yes hb]; first | exact if_pos h5 | exact if_neg h5)
  clear hb
  have HK := Lib.hid hK
  have HT := Lib.hid hT
  have Hv := Lib.hid hv
  have R0 := Lib.hid hr
  obtain ⟨ad, cp, ae, cq, rfl, rfl⟩ := hr.slice
  clear hr hK hT hv
  go_enter Try.func76, Try.ntmps76
  go_wp2_with fail
  go_at_call 59
  refine (icopy_any o s ag lo hi n m _ _ K T _ HK.out HT.out (R0.out.below (B := w.heap.size) (by go_grown) (by omega)) (by first | omega | (simp; omega)) hn hm).mono ?_
  rintro e v1 ⟨ru, rv, rfl, hr1, hb1⟩
  have sz1 : w.heap.size + 2 ≤ v1.heap.size := by have hh := hb1.size; simp at hh; omega
  have st1 : Below w.heap.size w v1 := Below.trans (by go_grown) (hb1.mono (by simp <;> omega))
  have c1_0 : v1.cell? ⟨w.heap.size, 0, none⟩ = some (.int .i64 o) := by rw [(bcell hb1).1 _ _ (by simp <;> omega), old_box (by simp <;> omega)]; first | (rw [new_at (by simp)]; rfl) | simp
  have c1_1 : v1.cell? ⟨w.heap.size, 1, none⟩ = some (.int .i64 s) := by rw [(bcell hb1).1 _ _ (by simp <;> omega), old_box (by simp <;> omega)]; first | (rw [new_at (by simp)]; rfl) | simp
  have c1_2 : v1.cell? ⟨w.heap.size, 2, none⟩ = some (.int .i64 ag) := by rw [(bcell hb1).1 _ _ (by simp <;> omega), old_box (by simp <;> omega)]; first | (rw [new_at (by simp)]; rfl) | simp
  have c1_3 : v1.cell? ⟨w.heap.size, 3, none⟩ = some (.slice ad n cp) := by rw [(bcell hb1).1 _ _ (by simp <;> omega), old_box (by simp <;> omega)]; first | (rw [new_at (by simp)]; rfl) | simp
  have c1_4 : v1.cell? ⟨w.heap.size, 4, none⟩ = some (.slice ae m cq) := by rw [(bcell hb1).1 _ _ (by simp <;> omega), old_box (by simp <;> omega)]; first | (rw [new_at (by simp)]; rfl) | simp
  have c1_5 : v1.cell? ⟨w.heap.size + 1, 0, none⟩ = some (.int .i64 0) := by rw [(bcell hb1).1 _ _ (by simp)]; first | (rw [new_at (by simp)]; rfl) | simp
  have c1_6 : v1.cell? ⟨w.heap.size + 1, 1, none⟩ = some (.int .i64 0) := by rw [(bcell hb1).1 _ _ (by simp)]; first | (rw [new_at (by simp)]; rfl) | simp
  have c1_7 : v1.cell? ⟨w.heap.size + 1, 2, none⟩ = some (.int .i64 0) := by rw [(bcell hb1).1 _ _ (by simp)]; first | (rw [new_at (by simp)]; rfl) | simp
  have c1_8 : v1.cell? ⟨w.heap.size + 1, 3, none⟩ = some (.slice none 0 0) := by rw [(bcell hb1).1 _ _ (by simp)]; first | (rw [new_at (by simp)]; rfl) | simp
  have c1_9 : v1.cell? ⟨w.heap.size + 1, 4, none⟩ = some (.slice none 0 0) := by rw [(bcell hb1).1 _ _ (by simp)]; first | (rw [new_at (by simp)]; rfl) | simp
  have g1_0 : v1.frozen? ⟨w.heap.size, 0, none⟩ = false := by rw [(bcell hb1).2 _ _ (by simp <;> omega), old_frz (by simp <;> omega), new_frz (by simp)]
  have g1_1 : v1.frozen? ⟨w.heap.size, 1, none⟩ = false := by rw [(bcell hb1).2 _ _ (by simp <;> omega), old_frz (by simp <;> omega), new_frz (by simp)]
  have g1_2 : v1.frozen? ⟨w.heap.size, 2, none⟩ = false := by rw [(bcell hb1).2 _ _ (by simp <;> omega), old_frz (by simp <;> omega), new_frz (by simp)]
  have g1_3 : v1.frozen? ⟨w.heap.size, 3, none⟩ = false := by rw [(bcell hb1).2 _ _ (by simp <;> omega), old_frz (by simp <;> omega), new_frz (by simp)]
  have g1_4 : v1.frozen? ⟨w.heap.size, 4, none⟩ = false := by rw [(bcell hb1).2 _ _ (by simp <;> omega), old_frz (by simp <;> omega), new_frz (by simp)]
  have g1_5 : v1.frozen? ⟨w.heap.size + 1, 0, none⟩ = false := by rw [(bcell hb1).2 _ _ (by simp), new_frz (by simp)]
  have g1_6 : v1.frozen? ⟨w.heap.size + 1, 1, none⟩ = false := by rw [(bcell hb1).2 _ _ (by simp), new_frz (by simp)]
  have g1_7 : v1.frozen? ⟨w.heap.size + 1, 2, none⟩ = false := by rw [(bcell hb1).2 _ _ (by simp), new_frz (by simp)]
  have g1_8 : v1.frozen? ⟨w.heap.size + 1, 3, none⟩ = false := by rw [(bcell hb1).2 _ _ (by simp), new_frz (by simp)]
  have g1_9 : v1.frozen? ⟨w.heap.size + 1, 4, none⟩ = false := by rw [(bcell hb1).2 _ _ (by simp), new_frz (by simp)]
  have B1 : Hid (Below w.heap.size w v1) := st1
  have R1_0 : Hid (LRow v1 (lo) (hi) (.slice ad n cp) (.slice ae m cq) n m (flat2 K) (flat T)) := R0.out.below st1 (by omega)
  have R1_1 : Hid (LRow v1 (w.heap.size + 2) (v1.heap.size) ru rv n m (flat2 K) (flat T)) := Lib.hid (hr1.wide (by simp) (Nat.le_refl _))
  have d1_0 : w.heap.size < v1.heap.size := by omega
  have e1_0 : w.heap.size ≠ v1.heap.size := by omega
  have d1_1 : w.heap.size + 1 < v1.heap.size := by omega
  have e1_1 : w.heap.size + 1 ≠ v1.heap.size := by omega
  clear st1 R0 hb1
  obtain ⟨ra, rc, sa, sc, rfl, rfl⟩ := R1_1.out.slice
  clear hr1
  go_wp2_with fail
  go_at_call 56
  refine (ilok_any o s ag lo hi lo hi n m _ _ K T _ HK.out HT.out ((R1_0.out.below (B := v1.heap.size) (by go_grown) (by omega))).fst ((R1_0.out.below (B := v1.heap.size) (by go_grown) (by omega))).snd (by first | omega | (simp; omega)) (by first | omega | (simp; omega))).mono ?_
  rw [Hv.out]
  rintro e v2 ⟨rfl, hb2⟩
  have sz2 : v1.heap.size + 1 ≤ v2.heap.size := by have hh := hb2.size; simp at hh; omega
  have st2 : Below v1.heap.size v1 v2 := Below.trans (by go_grown) (hb2.mono (by simp))
  have c2_0 : v2.cell? ⟨w.heap.size, 0, none⟩ = some (.int .i64 o) := by rw [(bcell st2).1 _ _ (by omega)]; exact c1_0
  have c2_1 : v2.cell? ⟨w.heap.size, 1, none⟩ = some (.int .i64 s) := by rw [(bcell st2).1 _ _ (by omega)]; exact c1_1
  have c2_2 : v2.cell? ⟨w.heap.size, 2, none⟩ = some (.int .i64 ag) := by rw [(bcell st2).1 _ _ (by omega)]; exact c1_2
  have c2_3 : v2.cell? ⟨w.heap.size, 3, none⟩ = some (.slice ad n cp) := by rw [(bcell st2).1 _ _ (by omega)]; exact c1_3
  have c2_4 : v2.cell? ⟨w.heap.size, 4, none⟩ = some (.slice ae m cq) := by rw [(bcell st2).1 _ _ (by omega)]; exact c1_4
  have c2_5 : v2.cell? ⟨w.heap.size + 1, 0, none⟩ = some (.int .i64 0) := by rw [(bcell st2).1 _ _ (by omega)]; exact c1_5
  have c2_6 : v2.cell? ⟨w.heap.size + 1, 1, none⟩ = some (.int .i64 0) := by rw [(bcell st2).1 _ _ (by omega)]; exact c1_6
  have c2_7 : v2.cell? ⟨w.heap.size + 1, 2, none⟩ = some (.int .i64 0) := by rw [(bcell st2).1 _ _ (by omega)]; exact c1_7
  have c2_8 : v2.cell? ⟨w.heap.size + 1, 3, none⟩ = some (.slice none 0 0) := by rw [(bcell st2).1 _ _ (by omega)]; exact c1_8
  have c2_9 : v2.cell? ⟨w.heap.size + 1, 4, none⟩ = some (.slice none 0 0) := by rw [(bcell st2).1 _ _ (by omega)]; exact c1_9
  have c2_10 : v2.cell? ⟨v1.heap.size, 0, none⟩ = some (.int .i64 o) := by rw [(bcell hb2).1 _ _ (by simp)]; first | (rw [new_at (by simp)]; rfl) | simp
  have c2_11 : v2.cell? ⟨v1.heap.size, 1, none⟩ = some (.int .i64 s) := by rw [(bcell hb2).1 _ _ (by simp)]; first | (rw [new_at (by simp)]; rfl) | simp
  have c2_12 : v2.cell? ⟨v1.heap.size, 2, none⟩ = some (.int .i64 ag) := by rw [(bcell hb2).1 _ _ (by simp)]; first | (rw [new_at (by simp)]; rfl) | simp
  have c2_13 : v2.cell? ⟨v1.heap.size, 3, none⟩ = some (.slice ra n rc) := by rw [(bcell hb2).1 _ _ (by simp)]; first | (rw [new_at (by simp)]; rfl) | simp
  have c2_14 : v2.cell? ⟨v1.heap.size, 4, none⟩ = some (.slice sa m sc) := by rw [(bcell hb2).1 _ _ (by simp)]; first | (rw [new_at (by simp)]; rfl) | simp
  have g2_0 : v2.frozen? ⟨w.heap.size, 0, none⟩ = false := by rw [(bcell st2).2 _ _ (by omega)]; exact g1_0
  have g2_1 : v2.frozen? ⟨w.heap.size, 1, none⟩ = false := by rw [(bcell st2).2 _ _ (by omega)]; exact g1_1
  have g2_2 : v2.frozen? ⟨w.heap.size, 2, none⟩ = false := by rw [(bcell st2).2 _ _ (by omega)]; exact g1_2
  have g2_3 : v2.frozen? ⟨w.heap.size, 3, none⟩ = false := by rw [(bcell st2).2 _ _ (by omega)]; exact g1_3
  have g2_4 : v2.frozen? ⟨w.heap.size, 4, none⟩ = false := by rw [(bcell st2).2 _ _ (by omega)]; exact g1_4
  have g2_5 : v2.frozen? ⟨w.heap.size + 1, 0, none⟩ = false := by rw [(bcell st2).2 _ _ (by omega)]; exact g1_5
  have g2_6 : v2.frozen? ⟨w.heap.size + 1, 1, none⟩ = false := by rw [(bcell st2).2 _ _ (by omega)]; exact g1_6
  have g2_7 : v2.frozen? ⟨w.heap.size + 1, 2, none⟩ = false := by rw [(bcell st2).2 _ _ (by omega)]; exact g1_7
  have g2_8 : v2.frozen? ⟨w.heap.size + 1, 3, none⟩ = false := by rw [(bcell st2).2 _ _ (by omega)]; exact g1_8
  have g2_9 : v2.frozen? ⟨w.heap.size + 1, 4, none⟩ = false := by rw [(bcell st2).2 _ _ (by omega)]; exact g1_9
  have g2_10 : v2.frozen? ⟨v1.heap.size, 0, none⟩ = false := by rw [(bcell hb2).2 _ _ (by simp), new_frz (by simp)]
  have g2_11 : v2.frozen? ⟨v1.heap.size, 1, none⟩ = false := by rw [(bcell hb2).2 _ _ (by simp), new_frz (by simp)]
  have g2_12 : v2.frozen? ⟨v1.heap.size, 2, none⟩ = false := by rw [(bcell hb2).2 _ _ (by simp), new_frz (by simp)]
  have g2_13 : v2.frozen? ⟨v1.heap.size, 3, none⟩ = false := by rw [(bcell hb2).2 _ _ (by simp), new_frz (by simp)]
  have g2_14 : v2.frozen? ⟨v1.heap.size, 4, none⟩ = false := by rw [(bcell hb2).2 _ _ (by simp), new_frz (by simp)]
  have B2 : Hid (Below w.heap.size w v2) := B1.out.trans (st2.mono (by omega))
  have R2_0 : Hid (LRow v2 (lo) (hi) (.slice ad n cp) (.slice ae m cq) n m (flat2 K) (flat T)) := R1_0.out.below st2 (by omega)
  have R2_1 : Hid (LRow v2 (w.heap.size + 2) (v1.heap.size) (.slice ra n rc) (.slice sa m sc) n m (flat2 K) (flat T)) := R1_1.out.below st2 (by omega)
  have d2_0 : w.heap.size < v2.heap.size := by omega
  have e2_0 : w.heap.size ≠ v2.heap.size := by omega
  have d2_1 : w.heap.size + 1 < v2.heap.size := by omega
  have e2_1 : w.heap.size + 1 ≠ v2.heap.size := by omega
  have d2_2 : v1.heap.size < v2.heap.size := by omega
  have e2_2 : v1.heap.size ≠ v2.heap.size := by omega
  clear d1_0 e1_0 d1_1 e1_1 c1_0 c1_1 c1_2 c1_3 c1_4 c1_5 c1_6 c1_7 c1_8 c1_9 g1_0 g1_1 g1_2 g1_3 g1_4 g1_5 g1_6 g1_7 g1_8 g1_9 B1 st2 R1_0 R1_1 hb2
  go_wp2_with fail
  refine bodyPost_ret (v := .tuple #[.agg #[.int .i64 o, .int .i64 s, .int .i64 (ag + by_), .slice ra n rc, .slice sa m sc], .bool true]) (by simp [results, Try.results76, go_sem, *]) rfl ⟨_, _, by rw [Hb.out, Ha.out], ?_, ?_⟩
  · exact (((((((R2_1.out.setCell (.inr (by simp <;> omega)) _).setCell (.inl (by simp <;> omega)) _).setCell (.inl (by simp <;> omega)) _).setCell (.inl (by simp <;> omega)) _).setCell (.inl (by simp <;> omega)) _).setCell (.inl (by simp <;> omega)) _).wide (by omega) (by simp [World.setCell] <;> omega))
  · exact (((((B2.out.setCell (by simp <;> omega) _).setCell (by simp <;> omega) _).setCell (by simp <;> omega) _).setCell (by simp <;> omega) _).setCell (by simp <;> omega) _).setCell (by simp <;> omega) _

set_option linter.unusedVariables false in
set_option maxRecDepth 100000 in
set_option maxHeartbeats 4000000 in
theorem iage_4 (o s ag by_ : Int) (lo hi n m : Nat) (u v : Value) (K : List Lk) (T : List Ed) (w : World) (hK : K.length = n) (hT : T.length = m) (hr : LRow w lo hi u v n m (flat2 K) (flat T)) (hh : hi ≤ w.heap.size) (hn : n ≤ 1048576) (hm : m ≤ 1048576) (hv : lokB o s ag K T = true) (h1 : ¬ by_ < 0) (h2 : ¬ 60 < by_) (h5 : 60 < ag + by_) (hb : agB o s ag by_ K T = true) :
    Calls Try.prog 76 #[.agg #[.int .i64 o, .int .i64 s, .int .i64 ag, u, v], .int .i64 by_] w fun e w' => ∃ ru rv, e = .returned (.tuple #[.agg #[.int .i64 o, .int .i64 s, .int .i64 (agV o s ag by_ K T), ru, rv], .bool (agB o s ag by_ K T)]) ∧ LRow w' w.heap.size w'.heap.size ru rv n m (flat2 K) (flat T) ∧ Below w.heap.size w w' := by
  have hg := lok_bd' hv
  obtain ⟨ga, gb⟩ := hg
  have hbb : 0 ≤ by_ ∧ by_ ≤ 60 := ⟨by omega, by omega⟩
  obtain ⟨bb0, bb1⟩ := hbb
  have Hb := Lib.hid hb
  have Ha : Hid (agV o s ag by_ K T = 60) := Lib.hid (by rw [agV_yes hb]; first | exact if_pos h5 | exact if_neg h5)
  clear hb
  have HK := Lib.hid hK
  have HT := Lib.hid hT
  have Hv := Lib.hid hv
  have R0 := Lib.hid hr
  obtain ⟨ad, cp, ae, cq, rfl, rfl⟩ := hr.slice
  clear hr hK hT hv
  go_enter Try.func76, Try.ntmps76
  go_wp2_with fail
  go_at_call 59
  refine (icopy_any o s ag lo hi n m _ _ K T _ HK.out HT.out (R0.out.below (B := w.heap.size) (by go_grown) (by omega)) (by first | omega | (simp; omega)) hn hm).mono ?_
  rintro e v1 ⟨ru, rv, rfl, hr1, hb1⟩
  have sz1 : w.heap.size + 2 ≤ v1.heap.size := by have hh := hb1.size; simp at hh; omega
  have st1 : Below w.heap.size w v1 := Below.trans (by go_grown) (hb1.mono (by simp <;> omega))
  have c1_0 : v1.cell? ⟨w.heap.size, 0, none⟩ = some (.int .i64 o) := by rw [(bcell hb1).1 _ _ (by simp <;> omega), old_box (by simp <;> omega)]; first | (rw [new_at (by simp)]; rfl) | simp
  have c1_1 : v1.cell? ⟨w.heap.size, 1, none⟩ = some (.int .i64 s) := by rw [(bcell hb1).1 _ _ (by simp <;> omega), old_box (by simp <;> omega)]; first | (rw [new_at (by simp)]; rfl) | simp
  have c1_2 : v1.cell? ⟨w.heap.size, 2, none⟩ = some (.int .i64 ag) := by rw [(bcell hb1).1 _ _ (by simp <;> omega), old_box (by simp <;> omega)]; first | (rw [new_at (by simp)]; rfl) | simp
  have c1_3 : v1.cell? ⟨w.heap.size, 3, none⟩ = some (.slice ad n cp) := by rw [(bcell hb1).1 _ _ (by simp <;> omega), old_box (by simp <;> omega)]; first | (rw [new_at (by simp)]; rfl) | simp
  have c1_4 : v1.cell? ⟨w.heap.size, 4, none⟩ = some (.slice ae m cq) := by rw [(bcell hb1).1 _ _ (by simp <;> omega), old_box (by simp <;> omega)]; first | (rw [new_at (by simp)]; rfl) | simp
  have c1_5 : v1.cell? ⟨w.heap.size + 1, 0, none⟩ = some (.int .i64 0) := by rw [(bcell hb1).1 _ _ (by simp)]; first | (rw [new_at (by simp)]; rfl) | simp
  have c1_6 : v1.cell? ⟨w.heap.size + 1, 1, none⟩ = some (.int .i64 0) := by rw [(bcell hb1).1 _ _ (by simp)]; first | (rw [new_at (by simp)]; rfl) | simp
  have c1_7 : v1.cell? ⟨w.heap.size + 1, 2, none⟩ = some (.int .i64 0) := by rw [(bcell hb1).1 _ _ (by simp)]; first | (rw [new_at (by simp)]; rfl) | simp
  have c1_8 : v1.cell? ⟨w.heap.size + 1, 3, none⟩ = some (.slice none 0 0) := by rw [(bcell hb1).1 _ _ (by simp)]; first | (rw [new_at (by simp)]; rfl) | simp
  have c1_9 : v1.cell? ⟨w.heap.size + 1, 4, none⟩ = some (.slice none 0 0) := by rw [(bcell hb1).1 _ _ (by simp)]; first | (rw [new_at (by simp)]; rfl) | simp
  have g1_0 : v1.frozen? ⟨w.heap.size, 0, none⟩ = false := by rw [(bcell hb1).2 _ _ (by simp <;> omega), old_frz (by simp <;> omega), new_frz (by simp)]
  have g1_1 : v1.frozen? ⟨w.heap.size, 1, none⟩ = false := by rw [(bcell hb1).2 _ _ (by simp <;> omega), old_frz (by simp <;> omega), new_frz (by simp)]
  have g1_2 : v1.frozen? ⟨w.heap.size, 2, none⟩ = false := by rw [(bcell hb1).2 _ _ (by simp <;> omega), old_frz (by simp <;> omega), new_frz (by simp)]
  have g1_3 : v1.frozen? ⟨w.heap.size, 3, none⟩ = false := by rw [(bcell hb1).2 _ _ (by simp <;> omega), old_frz (by simp <;> omega), new_frz (by simp)]
  have g1_4 : v1.frozen? ⟨w.heap.size, 4, none⟩ = false := by rw [(bcell hb1).2 _ _ (by simp <;> omega), old_frz (by simp <;> omega), new_frz (by simp)]
  have g1_5 : v1.frozen? ⟨w.heap.size + 1, 0, none⟩ = false := by rw [(bcell hb1).2 _ _ (by simp), new_frz (by simp)]
  have g1_6 : v1.frozen? ⟨w.heap.size + 1, 1, none⟩ = false := by rw [(bcell hb1).2 _ _ (by simp), new_frz (by simp)]
  have g1_7 : v1.frozen? ⟨w.heap.size + 1, 2, none⟩ = false := by rw [(bcell hb1).2 _ _ (by simp), new_frz (by simp)]
  have g1_8 : v1.frozen? ⟨w.heap.size + 1, 3, none⟩ = false := by rw [(bcell hb1).2 _ _ (by simp), new_frz (by simp)]
  have g1_9 : v1.frozen? ⟨w.heap.size + 1, 4, none⟩ = false := by rw [(bcell hb1).2 _ _ (by simp), new_frz (by simp)]
  have B1 : Hid (Below w.heap.size w v1) := st1
  have R1_0 : Hid (LRow v1 (lo) (hi) (.slice ad n cp) (.slice ae m cq) n m (flat2 K) (flat T)) := R0.out.below st1 (by omega)
  have R1_1 : Hid (LRow v1 (w.heap.size + 2) (v1.heap.size) ru rv n m (flat2 K) (flat T)) := Lib.hid (hr1.wide (by simp) (Nat.le_refl _))
  have d1_0 : w.heap.size < v1.heap.size := by omega
  have e1_0 : w.heap.size ≠ v1.heap.size := by omega
  have d1_1 : w.heap.size + 1 < v1.heap.size := by omega
  have e1_1 : w.heap.size + 1 ≠ v1.heap.size := by omega
  clear st1 R0 hb1
  obtain ⟨ra, rc, sa, sc, rfl, rfl⟩ := R1_1.out.slice
  clear hr1
  go_wp2_with fail
  go_at_call 56
  refine (ilok_any o s ag lo hi lo hi n m _ _ K T _ HK.out HT.out ((R1_0.out.below (B := v1.heap.size) (by go_grown) (by omega))).fst ((R1_0.out.below (B := v1.heap.size) (by go_grown) (by omega))).snd (by first | omega | (simp; omega)) (by first | omega | (simp; omega))).mono ?_
  rw [Hv.out]
  rintro e v2 ⟨rfl, hb2⟩
  have sz2 : v1.heap.size + 1 ≤ v2.heap.size := by have hh := hb2.size; simp at hh; omega
  have st2 : Below v1.heap.size v1 v2 := Below.trans (by go_grown) (hb2.mono (by simp))
  have c2_0 : v2.cell? ⟨w.heap.size, 0, none⟩ = some (.int .i64 o) := by rw [(bcell st2).1 _ _ (by omega)]; exact c1_0
  have c2_1 : v2.cell? ⟨w.heap.size, 1, none⟩ = some (.int .i64 s) := by rw [(bcell st2).1 _ _ (by omega)]; exact c1_1
  have c2_2 : v2.cell? ⟨w.heap.size, 2, none⟩ = some (.int .i64 ag) := by rw [(bcell st2).1 _ _ (by omega)]; exact c1_2
  have c2_3 : v2.cell? ⟨w.heap.size, 3, none⟩ = some (.slice ad n cp) := by rw [(bcell st2).1 _ _ (by omega)]; exact c1_3
  have c2_4 : v2.cell? ⟨w.heap.size, 4, none⟩ = some (.slice ae m cq) := by rw [(bcell st2).1 _ _ (by omega)]; exact c1_4
  have c2_5 : v2.cell? ⟨w.heap.size + 1, 0, none⟩ = some (.int .i64 0) := by rw [(bcell st2).1 _ _ (by omega)]; exact c1_5
  have c2_6 : v2.cell? ⟨w.heap.size + 1, 1, none⟩ = some (.int .i64 0) := by rw [(bcell st2).1 _ _ (by omega)]; exact c1_6
  have c2_7 : v2.cell? ⟨w.heap.size + 1, 2, none⟩ = some (.int .i64 0) := by rw [(bcell st2).1 _ _ (by omega)]; exact c1_7
  have c2_8 : v2.cell? ⟨w.heap.size + 1, 3, none⟩ = some (.slice none 0 0) := by rw [(bcell st2).1 _ _ (by omega)]; exact c1_8
  have c2_9 : v2.cell? ⟨w.heap.size + 1, 4, none⟩ = some (.slice none 0 0) := by rw [(bcell st2).1 _ _ (by omega)]; exact c1_9
  have c2_10 : v2.cell? ⟨v1.heap.size, 0, none⟩ = some (.int .i64 o) := by rw [(bcell hb2).1 _ _ (by simp)]; first | (rw [new_at (by simp)]; rfl) | simp
  have c2_11 : v2.cell? ⟨v1.heap.size, 1, none⟩ = some (.int .i64 s) := by rw [(bcell hb2).1 _ _ (by simp)]; first | (rw [new_at (by simp)]; rfl) | simp
  have c2_12 : v2.cell? ⟨v1.heap.size, 2, none⟩ = some (.int .i64 ag) := by rw [(bcell hb2).1 _ _ (by simp)]; first | (rw [new_at (by simp)]; rfl) | simp
  have c2_13 : v2.cell? ⟨v1.heap.size, 3, none⟩ = some (.slice ra n rc) := by rw [(bcell hb2).1 _ _ (by simp)]; first | (rw [new_at (by simp)]; rfl) | simp
  have c2_14 : v2.cell? ⟨v1.heap.size, 4, none⟩ = some (.slice sa m sc) := by rw [(bcell hb2).1 _ _ (by simp)]; first | (rw [new_at (by simp)]; rfl) | simp
  have g2_0 : v2.frozen? ⟨w.heap.size, 0, none⟩ = false := by rw [(bcell st2).2 _ _ (by omega)]; exact g1_0
  have g2_1 : v2.frozen? ⟨w.heap.size, 1, none⟩ = false := by rw [(bcell st2).2 _ _ (by omega)]; exact g1_1
  have g2_2 : v2.frozen? ⟨w.heap.size, 2, none⟩ = false := by rw [(bcell st2).2 _ _ (by omega)]; exact g1_2
  have g2_3 : v2.frozen? ⟨w.heap.size, 3, none⟩ = false := by rw [(bcell st2).2 _ _ (by omega)]; exact g1_3
  have g2_4 : v2.frozen? ⟨w.heap.size, 4, none⟩ = false := by rw [(bcell st2).2 _ _ (by omega)]; exact g1_4
  have g2_5 : v2.frozen? ⟨w.heap.size + 1, 0, none⟩ = false := by rw [(bcell st2).2 _ _ (by omega)]; exact g1_5
  have g2_6 : v2.frozen? ⟨w.heap.size + 1, 1, none⟩ = false := by rw [(bcell st2).2 _ _ (by omega)]; exact g1_6
  have g2_7 : v2.frozen? ⟨w.heap.size + 1, 2, none⟩ = false := by rw [(bcell st2).2 _ _ (by omega)]; exact g1_7
  have g2_8 : v2.frozen? ⟨w.heap.size + 1, 3, none⟩ = false := by rw [(bcell st2).2 _ _ (by omega)]; exact g1_8
  have g2_9 : v2.frozen? ⟨w.heap.size + 1, 4, none⟩ = false := by rw [(bcell st2).2 _ _ (by omega)]; exact g1_9
  have g2_10 : v2.frozen? ⟨v1.heap.size, 0, none⟩ = false := by rw [(bcell hb2).2 _ _ (by simp), new_frz (by simp)]
  have g2_11 : v2.frozen? ⟨v1.heap.size, 1, none⟩ = false := by rw [(bcell hb2).2 _ _ (by simp), new_frz (by simp)]
  have g2_12 : v2.frozen? ⟨v1.heap.size, 2, none⟩ = false := by rw [(bcell hb2).2 _ _ (by simp), new_frz (by simp)]
  have g2_13 : v2.frozen? ⟨v1.heap.size, 3, none⟩ = false := by rw [(bcell hb2).2 _ _ (by simp), new_frz (by simp)]
  have g2_14 : v2.frozen? ⟨v1.heap.size, 4, none⟩ = false := by rw [(bcell hb2).2 _ _ (by simp), new_frz (by simp)]
  have B2 : Hid (Below w.heap.size w v2) := B1.out.trans (st2.mono (by omega))
  have R2_0 : Hid (LRow v2 (lo) (hi) (.slice ad n cp) (.slice ae m cq) n m (flat2 K) (flat T)) := R1_0.out.below st2 (by omega)
  have R2_1 : Hid (LRow v2 (w.heap.size + 2) (v1.heap.size) (.slice ra n rc) (.slice sa m sc) n m (flat2 K) (flat T)) := R1_1.out.below st2 (by omega)
  have d2_0 : w.heap.size < v2.heap.size := by omega
  have e2_0 : w.heap.size ≠ v2.heap.size := by omega
  have d2_1 : w.heap.size + 1 < v2.heap.size := by omega
  have e2_1 : w.heap.size + 1 ≠ v2.heap.size := by omega
  have d2_2 : v1.heap.size < v2.heap.size := by omega
  have e2_2 : v1.heap.size ≠ v2.heap.size := by omega
  clear d1_0 e1_0 d1_1 e1_1 c1_0 c1_1 c1_2 c1_3 c1_4 c1_5 c1_6 c1_7 c1_8 c1_9 g1_0 g1_1 g1_2 g1_3 g1_4 g1_5 g1_6 g1_7 g1_8 g1_9 B1 st2 R1_0 R1_1 hb2
  go_wp2_with fail
  refine bodyPost_ret (v := .tuple #[.agg #[.int .i64 o, .int .i64 s, .int .i64 (60), .slice ra n rc, .slice sa m sc], .bool true]) (by simp [results, Try.results76, go_sem, *]) rfl ⟨_, _, by rw [Hb.out, Ha.out], ?_, ?_⟩
  · exact (((((((R2_1.out.setCell (.inr (by simp <;> omega)) _).setCell (.inl (by simp <;> omega)) _).setCell (.inl (by simp <;> omega)) _).setCell (.inl (by simp <;> omega)) _).setCell (.inl (by simp <;> omega)) _).setCell (.inl (by simp <;> omega)) _).wide (by omega) (by simp [World.setCell] <;> omega))
  · exact (((((B2.out.setCell (by simp <;> omega) _).setCell (by simp <;> omega) _).setCell (by simp <;> omega) _).setCell (by simp <;> omega) _).setCell (by simp <;> omega) _).setCell (by simp <;> omega) _

theorem iage_any (o s ag by_ : Int) (lo hi n m : Nat) (u v : Value) (K : List Lk) (T : List Ed) (w : World) (hK : K.length = n) (hT : T.length = m) (hr : LRow w lo hi u v n m (flat2 K) (flat T)) (hh : hi ≤ w.heap.size) (hn : n ≤ 1048576) (hm : m ≤ 1048576) :
    Calls Try.prog 76 #[.agg #[.int .i64 o, .int .i64 s, .int .i64 ag, u, v], .int .i64 by_] w fun e w' => ∃ ru rv, e = .returned (.tuple #[.agg #[.int .i64 o, .int .i64 s, .int .i64 (agV o s ag by_ K T), ru, rv], .bool (agB o s ag by_ K T)]) ∧ LRow w' w.heap.size w'.heap.size ru rv n m (flat2 K) (flat T) ∧ Below w.heap.size w w' := by
  cases hv : lokB o s ag K T
  · exact iage_0 o s ag by_ lo hi n m u v K T w hK hT hr hh hn hm hv (by unfold agB; rw [hv]; rfl)
  by_cases h1 : by_ < 0
  · exact iage_1 o s ag by_ lo hi n m u v K T w hK hT hr hh hn hm hv h1 (by unfold agB; rw [hv, inB_false (by omega)]; rfl)
  by_cases h2 : 60 < by_
  · exact iage_2 o s ag by_ lo hi n m u v K T w hK hT hr hh hn hm hv h1 h2 (by unfold agB; rw [hv, inB_false (by omega)]; rfl)
  by_cases h5 : 60 < ag + by_
  · exact iage_4 o s ag by_ lo hi n m u v K T w hK hT hr hh hn hm hv h1 h2 h5 (by unfold agB; rw [hv, inB_true (by omega) (by omega)]; rfl)
  · exact iage_3 o s ag by_ lo hi n m u v K T w hK hT hr hh hn hm hv h1 h2 h5 (by unfold agB; rw [hv, inB_true (by omega) (by omega)]; rfl)

set_option linter.unusedVariables false in
set_option maxRecDepth 100000 in
set_option maxHeartbeats 4000000 in
theorem sage_0 (o s ag by_ : Int) (lo hi n m : Nat) (u v : Value) (K : List Lk) (T : List Ed) (w : World) (hK : K.length = n) (hT : T.length = m) (hr : LRow w lo hi u v n m (flat2 K) (flat T)) (hh : hi ≤ w.heap.size) (hn : n ≤ 1048576) (hm : m ≤ 1048576) (hv : lokB o s ag K T = false) (hb : agB o s ag by_ K T = false) :
    Calls Try.prog 75 #[.agg #[.int .i64 o, .int .i64 s, .int .i64 ag, u, v], .int .i64 by_] w fun e w' => ∃ ru rv, e = .returned (.tuple #[.agg #[.int .i64 o, .int .i64 s, .int .i64 (agV o s ag by_ K T), ru, rv], .bool (agB o s ag by_ K T)]) ∧ LRow w' w.heap.size w'.heap.size ru rv n m (flat2 K) (flat T) ∧ Below w.heap.size w w' := by
  have Hb := Lib.hid hb
  have Ha : Hid (agV o s ag by_ K T = ag) := Lib.hid (by rw [agV_no hb])
  clear hb
  have HK := Lib.hid hK
  have HT := Lib.hid hT
  have Hv := Lib.hid hv
  have R0 := Lib.hid hr
  obtain ⟨ad, cp, ae, cq, rfl, rfl⟩ := hr.slice
  clear hr hK hT hv
  go_enter Try.func75, Try.ntmps75
  go_wp2_with fail
  go_at_call 58
  refine (scopy_any o s ag lo hi n m _ _ K T _ HK.out HT.out (R0.out.below (B := w.heap.size) (by go_grown) (by omega)) (by first | omega | (simp; omega)) hn hm).mono ?_
  rintro e v1 ⟨ru, rv, rfl, hr1, hb1⟩
  have sz1 : w.heap.size + 2 ≤ v1.heap.size := by have hh := hb1.size; simp at hh; omega
  have st1 : Below w.heap.size w v1 := Below.trans (by go_grown) (hb1.mono (by simp <;> omega))
  have c1_0 : v1.cell? ⟨w.heap.size, 0, none⟩ = some (.int .i64 o) := by rw [(bcell hb1).1 _ _ (by simp <;> omega), old_box (by simp <;> omega)]; first | (rw [new_at (by simp)]; rfl) | simp
  have c1_1 : v1.cell? ⟨w.heap.size, 1, none⟩ = some (.int .i64 s) := by rw [(bcell hb1).1 _ _ (by simp <;> omega), old_box (by simp <;> omega)]; first | (rw [new_at (by simp)]; rfl) | simp
  have c1_2 : v1.cell? ⟨w.heap.size, 2, none⟩ = some (.int .i64 ag) := by rw [(bcell hb1).1 _ _ (by simp <;> omega), old_box (by simp <;> omega)]; first | (rw [new_at (by simp)]; rfl) | simp
  have c1_3 : v1.cell? ⟨w.heap.size, 3, none⟩ = some (.slice ad n cp) := by rw [(bcell hb1).1 _ _ (by simp <;> omega), old_box (by simp <;> omega)]; first | (rw [new_at (by simp)]; rfl) | simp
  have c1_4 : v1.cell? ⟨w.heap.size, 4, none⟩ = some (.slice ae m cq) := by rw [(bcell hb1).1 _ _ (by simp <;> omega), old_box (by simp <;> omega)]; first | (rw [new_at (by simp)]; rfl) | simp
  have c1_5 : v1.cell? ⟨w.heap.size + 1, 0, none⟩ = some (.int .i64 0) := by rw [(bcell hb1).1 _ _ (by simp)]; first | (rw [new_at (by simp)]; rfl) | simp
  have c1_6 : v1.cell? ⟨w.heap.size + 1, 1, none⟩ = some (.int .i64 0) := by rw [(bcell hb1).1 _ _ (by simp)]; first | (rw [new_at (by simp)]; rfl) | simp
  have c1_7 : v1.cell? ⟨w.heap.size + 1, 2, none⟩ = some (.int .i64 0) := by rw [(bcell hb1).1 _ _ (by simp)]; first | (rw [new_at (by simp)]; rfl) | simp
  have c1_8 : v1.cell? ⟨w.heap.size + 1, 3, none⟩ = some (.slice none 0 0) := by rw [(bcell hb1).1 _ _ (by simp)]; first | (rw [new_at (by simp)]; rfl) | simp
  have c1_9 : v1.cell? ⟨w.heap.size + 1, 4, none⟩ = some (.slice none 0 0) := by rw [(bcell hb1).1 _ _ (by simp)]; first | (rw [new_at (by simp)]; rfl) | simp
  have g1_0 : v1.frozen? ⟨w.heap.size, 0, none⟩ = false := by rw [(bcell hb1).2 _ _ (by simp <;> omega), old_frz (by simp <;> omega), new_frz (by simp)]
  have g1_1 : v1.frozen? ⟨w.heap.size, 1, none⟩ = false := by rw [(bcell hb1).2 _ _ (by simp <;> omega), old_frz (by simp <;> omega), new_frz (by simp)]
  have g1_2 : v1.frozen? ⟨w.heap.size, 2, none⟩ = false := by rw [(bcell hb1).2 _ _ (by simp <;> omega), old_frz (by simp <;> omega), new_frz (by simp)]
  have g1_3 : v1.frozen? ⟨w.heap.size, 3, none⟩ = false := by rw [(bcell hb1).2 _ _ (by simp <;> omega), old_frz (by simp <;> omega), new_frz (by simp)]
  have g1_4 : v1.frozen? ⟨w.heap.size, 4, none⟩ = false := by rw [(bcell hb1).2 _ _ (by simp <;> omega), old_frz (by simp <;> omega), new_frz (by simp)]
  have g1_5 : v1.frozen? ⟨w.heap.size + 1, 0, none⟩ = false := by rw [(bcell hb1).2 _ _ (by simp), new_frz (by simp)]
  have g1_6 : v1.frozen? ⟨w.heap.size + 1, 1, none⟩ = false := by rw [(bcell hb1).2 _ _ (by simp), new_frz (by simp)]
  have g1_7 : v1.frozen? ⟨w.heap.size + 1, 2, none⟩ = false := by rw [(bcell hb1).2 _ _ (by simp), new_frz (by simp)]
  have g1_8 : v1.frozen? ⟨w.heap.size + 1, 3, none⟩ = false := by rw [(bcell hb1).2 _ _ (by simp), new_frz (by simp)]
  have g1_9 : v1.frozen? ⟨w.heap.size + 1, 4, none⟩ = false := by rw [(bcell hb1).2 _ _ (by simp), new_frz (by simp)]
  have B1 : Hid (Below w.heap.size w v1) := st1
  have R1_0 : Hid (LRow v1 (lo) (hi) (.slice ad n cp) (.slice ae m cq) n m (flat2 K) (flat T)) := R0.out.below st1 (by omega)
  have R1_1 : Hid (LRow v1 (w.heap.size + 2) (v1.heap.size) ru rv n m (flat2 K) (flat T)) := Lib.hid (hr1.wide (by simp) (Nat.le_refl _))
  have d1_0 : w.heap.size < v1.heap.size := by omega
  have e1_0 : w.heap.size ≠ v1.heap.size := by omega
  have d1_1 : w.heap.size + 1 < v1.heap.size := by omega
  have e1_1 : w.heap.size + 1 ≠ v1.heap.size := by omega
  clear st1 R0 hb1
  obtain ⟨ra, rc, sa, sc, rfl, rfl⟩ := R1_1.out.slice
  clear hr1
  go_wp2_with fail
  go_at_call 48
  refine (slok_any o s ag lo hi lo hi n m _ _ K T _ HK.out HT.out ((R1_0.out.below (B := v1.heap.size) (by go_grown) (by omega))).fst ((R1_0.out.below (B := v1.heap.size) (by go_grown) (by omega))).snd (by first | omega | (simp; omega)) (by first | omega | (simp; omega))).mono ?_
  rw [Hv.out]
  rintro e v2 ⟨rfl, hb2⟩
  have sz2 : v1.heap.size + 1 ≤ v2.heap.size := by have hh := hb2.size; simp at hh; omega
  have st2 : Below v1.heap.size v1 v2 := Below.trans (by go_grown) (hb2.mono (by simp))
  have c2_0 : v2.cell? ⟨w.heap.size, 0, none⟩ = some (.int .i64 o) := by rw [(bcell st2).1 _ _ (by omega)]; exact c1_0
  have c2_1 : v2.cell? ⟨w.heap.size, 1, none⟩ = some (.int .i64 s) := by rw [(bcell st2).1 _ _ (by omega)]; exact c1_1
  have c2_2 : v2.cell? ⟨w.heap.size, 2, none⟩ = some (.int .i64 ag) := by rw [(bcell st2).1 _ _ (by omega)]; exact c1_2
  have c2_3 : v2.cell? ⟨w.heap.size, 3, none⟩ = some (.slice ad n cp) := by rw [(bcell st2).1 _ _ (by omega)]; exact c1_3
  have c2_4 : v2.cell? ⟨w.heap.size, 4, none⟩ = some (.slice ae m cq) := by rw [(bcell st2).1 _ _ (by omega)]; exact c1_4
  have c2_5 : v2.cell? ⟨w.heap.size + 1, 0, none⟩ = some (.int .i64 0) := by rw [(bcell st2).1 _ _ (by omega)]; exact c1_5
  have c2_6 : v2.cell? ⟨w.heap.size + 1, 1, none⟩ = some (.int .i64 0) := by rw [(bcell st2).1 _ _ (by omega)]; exact c1_6
  have c2_7 : v2.cell? ⟨w.heap.size + 1, 2, none⟩ = some (.int .i64 0) := by rw [(bcell st2).1 _ _ (by omega)]; exact c1_7
  have c2_8 : v2.cell? ⟨w.heap.size + 1, 3, none⟩ = some (.slice none 0 0) := by rw [(bcell st2).1 _ _ (by omega)]; exact c1_8
  have c2_9 : v2.cell? ⟨w.heap.size + 1, 4, none⟩ = some (.slice none 0 0) := by rw [(bcell st2).1 _ _ (by omega)]; exact c1_9
  have c2_10 : v2.cell? ⟨v1.heap.size, 0, none⟩ = some (.int .i64 o) := by rw [(bcell hb2).1 _ _ (by simp)]; first | (rw [new_at (by simp)]; rfl) | simp
  have c2_11 : v2.cell? ⟨v1.heap.size, 1, none⟩ = some (.int .i64 s) := by rw [(bcell hb2).1 _ _ (by simp)]; first | (rw [new_at (by simp)]; rfl) | simp
  have c2_12 : v2.cell? ⟨v1.heap.size, 2, none⟩ = some (.int .i64 ag) := by rw [(bcell hb2).1 _ _ (by simp)]; first | (rw [new_at (by simp)]; rfl) | simp
  have c2_13 : v2.cell? ⟨v1.heap.size, 3, none⟩ = some (.slice ra n rc) := by rw [(bcell hb2).1 _ _ (by simp)]; first | (rw [new_at (by simp)]; rfl) | simp
  have c2_14 : v2.cell? ⟨v1.heap.size, 4, none⟩ = some (.slice sa m sc) := by rw [(bcell hb2).1 _ _ (by simp)]; first | (rw [new_at (by simp)]; rfl) | simp
  have g2_0 : v2.frozen? ⟨w.heap.size, 0, none⟩ = false := by rw [(bcell st2).2 _ _ (by omega)]; exact g1_0
  have g2_1 : v2.frozen? ⟨w.heap.size, 1, none⟩ = false := by rw [(bcell st2).2 _ _ (by omega)]; exact g1_1
  have g2_2 : v2.frozen? ⟨w.heap.size, 2, none⟩ = false := by rw [(bcell st2).2 _ _ (by omega)]; exact g1_2
  have g2_3 : v2.frozen? ⟨w.heap.size, 3, none⟩ = false := by rw [(bcell st2).2 _ _ (by omega)]; exact g1_3
  have g2_4 : v2.frozen? ⟨w.heap.size, 4, none⟩ = false := by rw [(bcell st2).2 _ _ (by omega)]; exact g1_4
  have g2_5 : v2.frozen? ⟨w.heap.size + 1, 0, none⟩ = false := by rw [(bcell st2).2 _ _ (by omega)]; exact g1_5
  have g2_6 : v2.frozen? ⟨w.heap.size + 1, 1, none⟩ = false := by rw [(bcell st2).2 _ _ (by omega)]; exact g1_6
  have g2_7 : v2.frozen? ⟨w.heap.size + 1, 2, none⟩ = false := by rw [(bcell st2).2 _ _ (by omega)]; exact g1_7
  have g2_8 : v2.frozen? ⟨w.heap.size + 1, 3, none⟩ = false := by rw [(bcell st2).2 _ _ (by omega)]; exact g1_8
  have g2_9 : v2.frozen? ⟨w.heap.size + 1, 4, none⟩ = false := by rw [(bcell st2).2 _ _ (by omega)]; exact g1_9
  have g2_10 : v2.frozen? ⟨v1.heap.size, 0, none⟩ = false := by rw [(bcell hb2).2 _ _ (by simp), new_frz (by simp)]
  have g2_11 : v2.frozen? ⟨v1.heap.size, 1, none⟩ = false := by rw [(bcell hb2).2 _ _ (by simp), new_frz (by simp)]
  have g2_12 : v2.frozen? ⟨v1.heap.size, 2, none⟩ = false := by rw [(bcell hb2).2 _ _ (by simp), new_frz (by simp)]
  have g2_13 : v2.frozen? ⟨v1.heap.size, 3, none⟩ = false := by rw [(bcell hb2).2 _ _ (by simp), new_frz (by simp)]
  have g2_14 : v2.frozen? ⟨v1.heap.size, 4, none⟩ = false := by rw [(bcell hb2).2 _ _ (by simp), new_frz (by simp)]
  have B2 : Hid (Below w.heap.size w v2) := B1.out.trans (st2.mono (by omega))
  have R2_0 : Hid (LRow v2 (lo) (hi) (.slice ad n cp) (.slice ae m cq) n m (flat2 K) (flat T)) := R1_0.out.below st2 (by omega)
  have R2_1 : Hid (LRow v2 (w.heap.size + 2) (v1.heap.size) (.slice ra n rc) (.slice sa m sc) n m (flat2 K) (flat T)) := R1_1.out.below st2 (by omega)
  have d2_0 : w.heap.size < v2.heap.size := by omega
  have e2_0 : w.heap.size ≠ v2.heap.size := by omega
  have d2_1 : w.heap.size + 1 < v2.heap.size := by omega
  have e2_1 : w.heap.size + 1 ≠ v2.heap.size := by omega
  have d2_2 : v1.heap.size < v2.heap.size := by omega
  have e2_2 : v1.heap.size ≠ v2.heap.size := by omega
  clear d1_0 e1_0 d1_1 e1_1 c1_0 c1_1 c1_2 c1_3 c1_4 c1_5 c1_6 c1_7 c1_8 c1_9 g1_0 g1_1 g1_2 g1_3 g1_4 g1_5 g1_6 g1_7 g1_8 g1_9 B1 st2 R1_0 R1_1 hb2
  go_wp2_with fail
  refine bodyPost_ret (v := .tuple #[.agg #[.int .i64 o, .int .i64 s, .int .i64 (ag), .slice ra n rc, .slice sa m sc], .bool false]) (by simp [results, Try.results75, go_sem, *]) rfl ⟨_, _, by rw [Hb.out, Ha.out], ?_, ?_⟩
  · exact ((((((R2_1.out.setCell (.inl (by simp <;> omega)) _).setCell (.inl (by simp <;> omega)) _).setCell (.inl (by simp <;> omega)) _).setCell (.inl (by simp <;> omega)) _).setCell (.inl (by simp <;> omega)) _).wide (by omega) (by simp [World.setCell] <;> omega))
  · exact ((((B2.out.setCell (by simp <;> omega) _).setCell (by simp <;> omega) _).setCell (by simp <;> omega) _).setCell (by simp <;> omega) _).setCell (by simp <;> omega) _

set_option linter.unusedVariables false in
set_option maxRecDepth 100000 in
set_option maxHeartbeats 4000000 in
theorem sage_1 (o s ag by_ : Int) (lo hi n m : Nat) (u v : Value) (K : List Lk) (T : List Ed) (w : World) (hK : K.length = n) (hT : T.length = m) (hr : LRow w lo hi u v n m (flat2 K) (flat T)) (hh : hi ≤ w.heap.size) (hn : n ≤ 1048576) (hm : m ≤ 1048576) (hv : lokB o s ag K T = true) (hin : inB by_ 0 60 = false) (hb : agB o s ag by_ K T = false) :
    Calls Try.prog 75 #[.agg #[.int .i64 o, .int .i64 s, .int .i64 ag, u, v], .int .i64 by_] w fun e w' => ∃ ru rv, e = .returned (.tuple #[.agg #[.int .i64 o, .int .i64 s, .int .i64 (agV o s ag by_ K T), ru, rv], .bool (agB o s ag by_ K T)]) ∧ LRow w' w.heap.size w'.heap.size ru rv n m (flat2 K) (flat T) ∧ Below w.heap.size w w' := by
  have Hb := Lib.hid hb
  have Ha : Hid (agV o s ag by_ K T = ag) := Lib.hid (by rw [agV_no hb])
  clear hb
  have HK := Lib.hid hK
  have HT := Lib.hid hT
  have Hv := Lib.hid hv
  have R0 := Lib.hid hr
  obtain ⟨ad, cp, ae, cq, rfl, rfl⟩ := hr.slice
  clear hr hK hT hv
  go_enter Try.func75, Try.ntmps75
  go_wp2_with fail
  go_at_call 58
  refine (scopy_any o s ag lo hi n m _ _ K T _ HK.out HT.out (R0.out.below (B := w.heap.size) (by go_grown) (by omega)) (by first | omega | (simp; omega)) hn hm).mono ?_
  rintro e v1 ⟨ru, rv, rfl, hr1, hb1⟩
  have sz1 : w.heap.size + 2 ≤ v1.heap.size := by have hh := hb1.size; simp at hh; omega
  have st1 : Below w.heap.size w v1 := Below.trans (by go_grown) (hb1.mono (by simp <;> omega))
  have c1_0 : v1.cell? ⟨w.heap.size, 0, none⟩ = some (.int .i64 o) := by rw [(bcell hb1).1 _ _ (by simp <;> omega), old_box (by simp <;> omega)]; first | (rw [new_at (by simp)]; rfl) | simp
  have c1_1 : v1.cell? ⟨w.heap.size, 1, none⟩ = some (.int .i64 s) := by rw [(bcell hb1).1 _ _ (by simp <;> omega), old_box (by simp <;> omega)]; first | (rw [new_at (by simp)]; rfl) | simp
  have c1_2 : v1.cell? ⟨w.heap.size, 2, none⟩ = some (.int .i64 ag) := by rw [(bcell hb1).1 _ _ (by simp <;> omega), old_box (by simp <;> omega)]; first | (rw [new_at (by simp)]; rfl) | simp
  have c1_3 : v1.cell? ⟨w.heap.size, 3, none⟩ = some (.slice ad n cp) := by rw [(bcell hb1).1 _ _ (by simp <;> omega), old_box (by simp <;> omega)]; first | (rw [new_at (by simp)]; rfl) | simp
  have c1_4 : v1.cell? ⟨w.heap.size, 4, none⟩ = some (.slice ae m cq) := by rw [(bcell hb1).1 _ _ (by simp <;> omega), old_box (by simp <;> omega)]; first | (rw [new_at (by simp)]; rfl) | simp
  have c1_5 : v1.cell? ⟨w.heap.size + 1, 0, none⟩ = some (.int .i64 0) := by rw [(bcell hb1).1 _ _ (by simp)]; first | (rw [new_at (by simp)]; rfl) | simp
  have c1_6 : v1.cell? ⟨w.heap.size + 1, 1, none⟩ = some (.int .i64 0) := by rw [(bcell hb1).1 _ _ (by simp)]; first | (rw [new_at (by simp)]; rfl) | simp
  have c1_7 : v1.cell? ⟨w.heap.size + 1, 2, none⟩ = some (.int .i64 0) := by rw [(bcell hb1).1 _ _ (by simp)]; first | (rw [new_at (by simp)]; rfl) | simp
  have c1_8 : v1.cell? ⟨w.heap.size + 1, 3, none⟩ = some (.slice none 0 0) := by rw [(bcell hb1).1 _ _ (by simp)]; first | (rw [new_at (by simp)]; rfl) | simp
  have c1_9 : v1.cell? ⟨w.heap.size + 1, 4, none⟩ = some (.slice none 0 0) := by rw [(bcell hb1).1 _ _ (by simp)]; first | (rw [new_at (by simp)]; rfl) | simp
  have g1_0 : v1.frozen? ⟨w.heap.size, 0, none⟩ = false := by rw [(bcell hb1).2 _ _ (by simp <;> omega), old_frz (by simp <;> omega), new_frz (by simp)]
  have g1_1 : v1.frozen? ⟨w.heap.size, 1, none⟩ = false := by rw [(bcell hb1).2 _ _ (by simp <;> omega), old_frz (by simp <;> omega), new_frz (by simp)]
  have g1_2 : v1.frozen? ⟨w.heap.size, 2, none⟩ = false := by rw [(bcell hb1).2 _ _ (by simp <;> omega), old_frz (by simp <;> omega), new_frz (by simp)]
  have g1_3 : v1.frozen? ⟨w.heap.size, 3, none⟩ = false := by rw [(bcell hb1).2 _ _ (by simp <;> omega), old_frz (by simp <;> omega), new_frz (by simp)]
  have g1_4 : v1.frozen? ⟨w.heap.size, 4, none⟩ = false := by rw [(bcell hb1).2 _ _ (by simp <;> omega), old_frz (by simp <;> omega), new_frz (by simp)]
  have g1_5 : v1.frozen? ⟨w.heap.size + 1, 0, none⟩ = false := by rw [(bcell hb1).2 _ _ (by simp), new_frz (by simp)]
  have g1_6 : v1.frozen? ⟨w.heap.size + 1, 1, none⟩ = false := by rw [(bcell hb1).2 _ _ (by simp), new_frz (by simp)]
  have g1_7 : v1.frozen? ⟨w.heap.size + 1, 2, none⟩ = false := by rw [(bcell hb1).2 _ _ (by simp), new_frz (by simp)]
  have g1_8 : v1.frozen? ⟨w.heap.size + 1, 3, none⟩ = false := by rw [(bcell hb1).2 _ _ (by simp), new_frz (by simp)]
  have g1_9 : v1.frozen? ⟨w.heap.size + 1, 4, none⟩ = false := by rw [(bcell hb1).2 _ _ (by simp), new_frz (by simp)]
  have B1 : Hid (Below w.heap.size w v1) := st1
  have R1_0 : Hid (LRow v1 (lo) (hi) (.slice ad n cp) (.slice ae m cq) n m (flat2 K) (flat T)) := R0.out.below st1 (by omega)
  have R1_1 : Hid (LRow v1 (w.heap.size + 2) (v1.heap.size) ru rv n m (flat2 K) (flat T)) := Lib.hid (hr1.wide (by simp) (Nat.le_refl _))
  have d1_0 : w.heap.size < v1.heap.size := by omega
  have e1_0 : w.heap.size ≠ v1.heap.size := by omega
  have d1_1 : w.heap.size + 1 < v1.heap.size := by omega
  have e1_1 : w.heap.size + 1 ≠ v1.heap.size := by omega
  clear st1 R0 hb1
  obtain ⟨ra, rc, sa, sc, rfl, rfl⟩ := R1_1.out.slice
  clear hr1
  go_wp2_with fail
  go_at_call 48
  refine (slok_any o s ag lo hi lo hi n m _ _ K T _ HK.out HT.out ((R1_0.out.below (B := v1.heap.size) (by go_grown) (by omega))).fst ((R1_0.out.below (B := v1.heap.size) (by go_grown) (by omega))).snd (by first | omega | (simp; omega)) (by first | omega | (simp; omega))).mono ?_
  rw [Hv.out]
  rintro e v2 ⟨rfl, hb2⟩
  have sz2 : v1.heap.size + 1 ≤ v2.heap.size := by have hh := hb2.size; simp at hh; omega
  have st2 : Below v1.heap.size v1 v2 := Below.trans (by go_grown) (hb2.mono (by simp))
  have c2_0 : v2.cell? ⟨w.heap.size, 0, none⟩ = some (.int .i64 o) := by rw [(bcell st2).1 _ _ (by omega)]; exact c1_0
  have c2_1 : v2.cell? ⟨w.heap.size, 1, none⟩ = some (.int .i64 s) := by rw [(bcell st2).1 _ _ (by omega)]; exact c1_1
  have c2_2 : v2.cell? ⟨w.heap.size, 2, none⟩ = some (.int .i64 ag) := by rw [(bcell st2).1 _ _ (by omega)]; exact c1_2
  have c2_3 : v2.cell? ⟨w.heap.size, 3, none⟩ = some (.slice ad n cp) := by rw [(bcell st2).1 _ _ (by omega)]; exact c1_3
  have c2_4 : v2.cell? ⟨w.heap.size, 4, none⟩ = some (.slice ae m cq) := by rw [(bcell st2).1 _ _ (by omega)]; exact c1_4
  have c2_5 : v2.cell? ⟨w.heap.size + 1, 0, none⟩ = some (.int .i64 0) := by rw [(bcell st2).1 _ _ (by omega)]; exact c1_5
  have c2_6 : v2.cell? ⟨w.heap.size + 1, 1, none⟩ = some (.int .i64 0) := by rw [(bcell st2).1 _ _ (by omega)]; exact c1_6
  have c2_7 : v2.cell? ⟨w.heap.size + 1, 2, none⟩ = some (.int .i64 0) := by rw [(bcell st2).1 _ _ (by omega)]; exact c1_7
  have c2_8 : v2.cell? ⟨w.heap.size + 1, 3, none⟩ = some (.slice none 0 0) := by rw [(bcell st2).1 _ _ (by omega)]; exact c1_8
  have c2_9 : v2.cell? ⟨w.heap.size + 1, 4, none⟩ = some (.slice none 0 0) := by rw [(bcell st2).1 _ _ (by omega)]; exact c1_9
  have c2_10 : v2.cell? ⟨v1.heap.size, 0, none⟩ = some (.int .i64 o) := by rw [(bcell hb2).1 _ _ (by simp)]; first | (rw [new_at (by simp)]; rfl) | simp
  have c2_11 : v2.cell? ⟨v1.heap.size, 1, none⟩ = some (.int .i64 s) := by rw [(bcell hb2).1 _ _ (by simp)]; first | (rw [new_at (by simp)]; rfl) | simp
  have c2_12 : v2.cell? ⟨v1.heap.size, 2, none⟩ = some (.int .i64 ag) := by rw [(bcell hb2).1 _ _ (by simp)]; first | (rw [new_at (by simp)]; rfl) | simp
  have c2_13 : v2.cell? ⟨v1.heap.size, 3, none⟩ = some (.slice ra n rc) := by rw [(bcell hb2).1 _ _ (by simp)]; first | (rw [new_at (by simp)]; rfl) | simp
  have c2_14 : v2.cell? ⟨v1.heap.size, 4, none⟩ = some (.slice sa m sc) := by rw [(bcell hb2).1 _ _ (by simp)]; first | (rw [new_at (by simp)]; rfl) | simp
  have g2_0 : v2.frozen? ⟨w.heap.size, 0, none⟩ = false := by rw [(bcell st2).2 _ _ (by omega)]; exact g1_0
  have g2_1 : v2.frozen? ⟨w.heap.size, 1, none⟩ = false := by rw [(bcell st2).2 _ _ (by omega)]; exact g1_1
  have g2_2 : v2.frozen? ⟨w.heap.size, 2, none⟩ = false := by rw [(bcell st2).2 _ _ (by omega)]; exact g1_2
  have g2_3 : v2.frozen? ⟨w.heap.size, 3, none⟩ = false := by rw [(bcell st2).2 _ _ (by omega)]; exact g1_3
  have g2_4 : v2.frozen? ⟨w.heap.size, 4, none⟩ = false := by rw [(bcell st2).2 _ _ (by omega)]; exact g1_4
  have g2_5 : v2.frozen? ⟨w.heap.size + 1, 0, none⟩ = false := by rw [(bcell st2).2 _ _ (by omega)]; exact g1_5
  have g2_6 : v2.frozen? ⟨w.heap.size + 1, 1, none⟩ = false := by rw [(bcell st2).2 _ _ (by omega)]; exact g1_6
  have g2_7 : v2.frozen? ⟨w.heap.size + 1, 2, none⟩ = false := by rw [(bcell st2).2 _ _ (by omega)]; exact g1_7
  have g2_8 : v2.frozen? ⟨w.heap.size + 1, 3, none⟩ = false := by rw [(bcell st2).2 _ _ (by omega)]; exact g1_8
  have g2_9 : v2.frozen? ⟨w.heap.size + 1, 4, none⟩ = false := by rw [(bcell st2).2 _ _ (by omega)]; exact g1_9
  have g2_10 : v2.frozen? ⟨v1.heap.size, 0, none⟩ = false := by rw [(bcell hb2).2 _ _ (by simp), new_frz (by simp)]
  have g2_11 : v2.frozen? ⟨v1.heap.size, 1, none⟩ = false := by rw [(bcell hb2).2 _ _ (by simp), new_frz (by simp)]
  have g2_12 : v2.frozen? ⟨v1.heap.size, 2, none⟩ = false := by rw [(bcell hb2).2 _ _ (by simp), new_frz (by simp)]
  have g2_13 : v2.frozen? ⟨v1.heap.size, 3, none⟩ = false := by rw [(bcell hb2).2 _ _ (by simp), new_frz (by simp)]
  have g2_14 : v2.frozen? ⟨v1.heap.size, 4, none⟩ = false := by rw [(bcell hb2).2 _ _ (by simp), new_frz (by simp)]
  have B2 : Hid (Below w.heap.size w v2) := B1.out.trans (st2.mono (by omega))
  have R2_0 : Hid (LRow v2 (lo) (hi) (.slice ad n cp) (.slice ae m cq) n m (flat2 K) (flat T)) := R1_0.out.below st2 (by omega)
  have R2_1 : Hid (LRow v2 (w.heap.size + 2) (v1.heap.size) (.slice ra n rc) (.slice sa m sc) n m (flat2 K) (flat T)) := R1_1.out.below st2 (by omega)
  have d2_0 : w.heap.size < v2.heap.size := by omega
  have e2_0 : w.heap.size ≠ v2.heap.size := by omega
  have d2_1 : w.heap.size + 1 < v2.heap.size := by omega
  have e2_1 : w.heap.size + 1 ≠ v2.heap.size := by omega
  have d2_2 : v1.heap.size < v2.heap.size := by omega
  have e2_2 : v1.heap.size ≠ v2.heap.size := by omega
  clear d1_0 e1_0 d1_1 e1_1 c1_0 c1_1 c1_2 c1_3 c1_4 c1_5 c1_6 c1_7 c1_8 c1_9 g1_0 g1_1 g1_2 g1_3 g1_4 g1_5 g1_6 g1_7 g1_8 g1_9 B1 st2 R1_0 R1_1 hb2
  go_wp2_with fail
  go_at_call 74
  refine (in_any by_ 0 60 _).mono ?_
  rw [hin]
  rintro e w' ⟨rfl, rfl⟩
  go_wp2_with fail
  refine bodyPost_ret (v := .tuple #[.agg #[.int .i64 o, .int .i64 s, .int .i64 (ag), .slice ra n rc, .slice sa m sc], .bool false]) (by simp [results, Try.results75, go_sem, *]) rfl ⟨_, _, by rw [Hb.out, Ha.out], ?_, ?_⟩
  · exact ((((((R2_1.out.setCell (.inl (by simp <;> omega)) _).setCell (.inl (by simp <;> omega)) _).setCell (.inl (by simp <;> omega)) _).setCell (.inl (by simp <;> omega)) _).setCell (.inl (by simp <;> omega)) _).wide (by omega) (by simp [World.setCell] <;> omega))
  · exact ((((B2.out.setCell (by simp <;> omega) _).setCell (by simp <;> omega) _).setCell (by simp <;> omega) _).setCell (by simp <;> omega) _).setCell (by simp <;> omega) _

set_option linter.unusedVariables false in
set_option maxRecDepth 100000 in
set_option maxHeartbeats 4000000 in
theorem sage_3 (o s ag by_ : Int) (lo hi n m : Nat) (u v : Value) (K : List Lk) (T : List Ed) (w : World) (hK : K.length = n) (hT : T.length = m) (hr : LRow w lo hi u v n m (flat2 K) (flat T)) (hh : hi ≤ w.heap.size) (hn : n ≤ 1048576) (hm : m ≤ 1048576) (hv : lokB o s ag K T = true) (hin : inB by_ 0 60 = true) (h5 : ¬ 60 < ag + by_) (hb : agB o s ag by_ K T = true) :
    Calls Try.prog 75 #[.agg #[.int .i64 o, .int .i64 s, .int .i64 ag, u, v], .int .i64 by_] w fun e w' => ∃ ru rv, e = .returned (.tuple #[.agg #[.int .i64 o, .int .i64 s, .int .i64 (agV o s ag by_ K T), ru, rv], .bool (agB o s ag by_ K T)]) ∧ LRow w' w.heap.size w'.heap.size ru rv n m (flat2 K) (flat T) ∧ Below w.heap.size w w' := by
  have hg := lok_bd' hv
  obtain ⟨ga, gb⟩ := hg
  have hbb : 0 ≤ by_ ∧ by_ ≤ 60 := inB_iff.1 hin
  obtain ⟨bb0, bb1⟩ := hbb
  have Hb := Lib.hid hb
  have Ha : Hid (agV o s ag by_ K T = ag + by_) := Lib.hid (by rw [agV_yes hb]; first | exact if_pos h5 | exact if_neg h5)
  clear hb
  have HK := Lib.hid hK
  have HT := Lib.hid hT
  have Hv := Lib.hid hv
  have R0 := Lib.hid hr
  obtain ⟨ad, cp, ae, cq, rfl, rfl⟩ := hr.slice
  clear hr hK hT hv
  go_enter Try.func75, Try.ntmps75
  go_wp2_with fail
  go_at_call 58
  refine (scopy_any o s ag lo hi n m _ _ K T _ HK.out HT.out (R0.out.below (B := w.heap.size) (by go_grown) (by omega)) (by first | omega | (simp; omega)) hn hm).mono ?_
  rintro e v1 ⟨ru, rv, rfl, hr1, hb1⟩
  have sz1 : w.heap.size + 2 ≤ v1.heap.size := by have hh := hb1.size; simp at hh; omega
  have st1 : Below w.heap.size w v1 := Below.trans (by go_grown) (hb1.mono (by simp <;> omega))
  have c1_0 : v1.cell? ⟨w.heap.size, 0, none⟩ = some (.int .i64 o) := by rw [(bcell hb1).1 _ _ (by simp <;> omega), old_box (by simp <;> omega)]; first | (rw [new_at (by simp)]; rfl) | simp
  have c1_1 : v1.cell? ⟨w.heap.size, 1, none⟩ = some (.int .i64 s) := by rw [(bcell hb1).1 _ _ (by simp <;> omega), old_box (by simp <;> omega)]; first | (rw [new_at (by simp)]; rfl) | simp
  have c1_2 : v1.cell? ⟨w.heap.size, 2, none⟩ = some (.int .i64 ag) := by rw [(bcell hb1).1 _ _ (by simp <;> omega), old_box (by simp <;> omega)]; first | (rw [new_at (by simp)]; rfl) | simp
  have c1_3 : v1.cell? ⟨w.heap.size, 3, none⟩ = some (.slice ad n cp) := by rw [(bcell hb1).1 _ _ (by simp <;> omega), old_box (by simp <;> omega)]; first | (rw [new_at (by simp)]; rfl) | simp
  have c1_4 : v1.cell? ⟨w.heap.size, 4, none⟩ = some (.slice ae m cq) := by rw [(bcell hb1).1 _ _ (by simp <;> omega), old_box (by simp <;> omega)]; first | (rw [new_at (by simp)]; rfl) | simp
  have c1_5 : v1.cell? ⟨w.heap.size + 1, 0, none⟩ = some (.int .i64 0) := by rw [(bcell hb1).1 _ _ (by simp)]; first | (rw [new_at (by simp)]; rfl) | simp
  have c1_6 : v1.cell? ⟨w.heap.size + 1, 1, none⟩ = some (.int .i64 0) := by rw [(bcell hb1).1 _ _ (by simp)]; first | (rw [new_at (by simp)]; rfl) | simp
  have c1_7 : v1.cell? ⟨w.heap.size + 1, 2, none⟩ = some (.int .i64 0) := by rw [(bcell hb1).1 _ _ (by simp)]; first | (rw [new_at (by simp)]; rfl) | simp
  have c1_8 : v1.cell? ⟨w.heap.size + 1, 3, none⟩ = some (.slice none 0 0) := by rw [(bcell hb1).1 _ _ (by simp)]; first | (rw [new_at (by simp)]; rfl) | simp
  have c1_9 : v1.cell? ⟨w.heap.size + 1, 4, none⟩ = some (.slice none 0 0) := by rw [(bcell hb1).1 _ _ (by simp)]; first | (rw [new_at (by simp)]; rfl) | simp
  have g1_0 : v1.frozen? ⟨w.heap.size, 0, none⟩ = false := by rw [(bcell hb1).2 _ _ (by simp <;> omega), old_frz (by simp <;> omega), new_frz (by simp)]
  have g1_1 : v1.frozen? ⟨w.heap.size, 1, none⟩ = false := by rw [(bcell hb1).2 _ _ (by simp <;> omega), old_frz (by simp <;> omega), new_frz (by simp)]
  have g1_2 : v1.frozen? ⟨w.heap.size, 2, none⟩ = false := by rw [(bcell hb1).2 _ _ (by simp <;> omega), old_frz (by simp <;> omega), new_frz (by simp)]
  have g1_3 : v1.frozen? ⟨w.heap.size, 3, none⟩ = false := by rw [(bcell hb1).2 _ _ (by simp <;> omega), old_frz (by simp <;> omega), new_frz (by simp)]
  have g1_4 : v1.frozen? ⟨w.heap.size, 4, none⟩ = false := by rw [(bcell hb1).2 _ _ (by simp <;> omega), old_frz (by simp <;> omega), new_frz (by simp)]
  have g1_5 : v1.frozen? ⟨w.heap.size + 1, 0, none⟩ = false := by rw [(bcell hb1).2 _ _ (by simp), new_frz (by simp)]
  have g1_6 : v1.frozen? ⟨w.heap.size + 1, 1, none⟩ = false := by rw [(bcell hb1).2 _ _ (by simp), new_frz (by simp)]
  have g1_7 : v1.frozen? ⟨w.heap.size + 1, 2, none⟩ = false := by rw [(bcell hb1).2 _ _ (by simp), new_frz (by simp)]
  have g1_8 : v1.frozen? ⟨w.heap.size + 1, 3, none⟩ = false := by rw [(bcell hb1).2 _ _ (by simp), new_frz (by simp)]
  have g1_9 : v1.frozen? ⟨w.heap.size + 1, 4, none⟩ = false := by rw [(bcell hb1).2 _ _ (by simp), new_frz (by simp)]
  have B1 : Hid (Below w.heap.size w v1) := st1
  have R1_0 : Hid (LRow v1 (lo) (hi) (.slice ad n cp) (.slice ae m cq) n m (flat2 K) (flat T)) := R0.out.below st1 (by omega)
  have R1_1 : Hid (LRow v1 (w.heap.size + 2) (v1.heap.size) ru rv n m (flat2 K) (flat T)) := Lib.hid (hr1.wide (by simp) (Nat.le_refl _))
  have d1_0 : w.heap.size < v1.heap.size := by omega
  have e1_0 : w.heap.size ≠ v1.heap.size := by omega
  have d1_1 : w.heap.size + 1 < v1.heap.size := by omega
  have e1_1 : w.heap.size + 1 ≠ v1.heap.size := by omega
  clear st1 R0 hb1
  obtain ⟨ra, rc, sa, sc, rfl, rfl⟩ := R1_1.out.slice
  clear hr1
  go_wp2_with fail
  go_at_call 48
  refine (slok_any o s ag lo hi lo hi n m _ _ K T _ HK.out HT.out ((R1_0.out.below (B := v1.heap.size) (by go_grown) (by omega))).fst ((R1_0.out.below (B := v1.heap.size) (by go_grown) (by omega))).snd (by first | omega | (simp; omega)) (by first | omega | (simp; omega))).mono ?_
  rw [Hv.out]
  rintro e v2 ⟨rfl, hb2⟩
  have sz2 : v1.heap.size + 1 ≤ v2.heap.size := by have hh := hb2.size; simp at hh; omega
  have st2 : Below v1.heap.size v1 v2 := Below.trans (by go_grown) (hb2.mono (by simp))
  have c2_0 : v2.cell? ⟨w.heap.size, 0, none⟩ = some (.int .i64 o) := by rw [(bcell st2).1 _ _ (by omega)]; exact c1_0
  have c2_1 : v2.cell? ⟨w.heap.size, 1, none⟩ = some (.int .i64 s) := by rw [(bcell st2).1 _ _ (by omega)]; exact c1_1
  have c2_2 : v2.cell? ⟨w.heap.size, 2, none⟩ = some (.int .i64 ag) := by rw [(bcell st2).1 _ _ (by omega)]; exact c1_2
  have c2_3 : v2.cell? ⟨w.heap.size, 3, none⟩ = some (.slice ad n cp) := by rw [(bcell st2).1 _ _ (by omega)]; exact c1_3
  have c2_4 : v2.cell? ⟨w.heap.size, 4, none⟩ = some (.slice ae m cq) := by rw [(bcell st2).1 _ _ (by omega)]; exact c1_4
  have c2_5 : v2.cell? ⟨w.heap.size + 1, 0, none⟩ = some (.int .i64 0) := by rw [(bcell st2).1 _ _ (by omega)]; exact c1_5
  have c2_6 : v2.cell? ⟨w.heap.size + 1, 1, none⟩ = some (.int .i64 0) := by rw [(bcell st2).1 _ _ (by omega)]; exact c1_6
  have c2_7 : v2.cell? ⟨w.heap.size + 1, 2, none⟩ = some (.int .i64 0) := by rw [(bcell st2).1 _ _ (by omega)]; exact c1_7
  have c2_8 : v2.cell? ⟨w.heap.size + 1, 3, none⟩ = some (.slice none 0 0) := by rw [(bcell st2).1 _ _ (by omega)]; exact c1_8
  have c2_9 : v2.cell? ⟨w.heap.size + 1, 4, none⟩ = some (.slice none 0 0) := by rw [(bcell st2).1 _ _ (by omega)]; exact c1_9
  have c2_10 : v2.cell? ⟨v1.heap.size, 0, none⟩ = some (.int .i64 o) := by rw [(bcell hb2).1 _ _ (by simp)]; first | (rw [new_at (by simp)]; rfl) | simp
  have c2_11 : v2.cell? ⟨v1.heap.size, 1, none⟩ = some (.int .i64 s) := by rw [(bcell hb2).1 _ _ (by simp)]; first | (rw [new_at (by simp)]; rfl) | simp
  have c2_12 : v2.cell? ⟨v1.heap.size, 2, none⟩ = some (.int .i64 ag) := by rw [(bcell hb2).1 _ _ (by simp)]; first | (rw [new_at (by simp)]; rfl) | simp
  have c2_13 : v2.cell? ⟨v1.heap.size, 3, none⟩ = some (.slice ra n rc) := by rw [(bcell hb2).1 _ _ (by simp)]; first | (rw [new_at (by simp)]; rfl) | simp
  have c2_14 : v2.cell? ⟨v1.heap.size, 4, none⟩ = some (.slice sa m sc) := by rw [(bcell hb2).1 _ _ (by simp)]; first | (rw [new_at (by simp)]; rfl) | simp
  have g2_0 : v2.frozen? ⟨w.heap.size, 0, none⟩ = false := by rw [(bcell st2).2 _ _ (by omega)]; exact g1_0
  have g2_1 : v2.frozen? ⟨w.heap.size, 1, none⟩ = false := by rw [(bcell st2).2 _ _ (by omega)]; exact g1_1
  have g2_2 : v2.frozen? ⟨w.heap.size, 2, none⟩ = false := by rw [(bcell st2).2 _ _ (by omega)]; exact g1_2
  have g2_3 : v2.frozen? ⟨w.heap.size, 3, none⟩ = false := by rw [(bcell st2).2 _ _ (by omega)]; exact g1_3
  have g2_4 : v2.frozen? ⟨w.heap.size, 4, none⟩ = false := by rw [(bcell st2).2 _ _ (by omega)]; exact g1_4
  have g2_5 : v2.frozen? ⟨w.heap.size + 1, 0, none⟩ = false := by rw [(bcell st2).2 _ _ (by omega)]; exact g1_5
  have g2_6 : v2.frozen? ⟨w.heap.size + 1, 1, none⟩ = false := by rw [(bcell st2).2 _ _ (by omega)]; exact g1_6
  have g2_7 : v2.frozen? ⟨w.heap.size + 1, 2, none⟩ = false := by rw [(bcell st2).2 _ _ (by omega)]; exact g1_7
  have g2_8 : v2.frozen? ⟨w.heap.size + 1, 3, none⟩ = false := by rw [(bcell st2).2 _ _ (by omega)]; exact g1_8
  have g2_9 : v2.frozen? ⟨w.heap.size + 1, 4, none⟩ = false := by rw [(bcell st2).2 _ _ (by omega)]; exact g1_9
  have g2_10 : v2.frozen? ⟨v1.heap.size, 0, none⟩ = false := by rw [(bcell hb2).2 _ _ (by simp), new_frz (by simp)]
  have g2_11 : v2.frozen? ⟨v1.heap.size, 1, none⟩ = false := by rw [(bcell hb2).2 _ _ (by simp), new_frz (by simp)]
  have g2_12 : v2.frozen? ⟨v1.heap.size, 2, none⟩ = false := by rw [(bcell hb2).2 _ _ (by simp), new_frz (by simp)]
  have g2_13 : v2.frozen? ⟨v1.heap.size, 3, none⟩ = false := by rw [(bcell hb2).2 _ _ (by simp), new_frz (by simp)]
  have g2_14 : v2.frozen? ⟨v1.heap.size, 4, none⟩ = false := by rw [(bcell hb2).2 _ _ (by simp), new_frz (by simp)]
  have B2 : Hid (Below w.heap.size w v2) := B1.out.trans (st2.mono (by omega))
  have R2_0 : Hid (LRow v2 (lo) (hi) (.slice ad n cp) (.slice ae m cq) n m (flat2 K) (flat T)) := R1_0.out.below st2 (by omega)
  have R2_1 : Hid (LRow v2 (w.heap.size + 2) (v1.heap.size) (.slice ra n rc) (.slice sa m sc) n m (flat2 K) (flat T)) := R1_1.out.below st2 (by omega)
  have d2_0 : w.heap.size < v2.heap.size := by omega
  have e2_0 : w.heap.size ≠ v2.heap.size := by omega
  have d2_1 : w.heap.size + 1 < v2.heap.size := by omega
  have e2_1 : w.heap.size + 1 ≠ v2.heap.size := by omega
  have d2_2 : v1.heap.size < v2.heap.size := by omega
  have e2_2 : v1.heap.size ≠ v2.heap.size := by omega
  clear d1_0 e1_0 d1_1 e1_1 c1_0 c1_1 c1_2 c1_3 c1_4 c1_5 c1_6 c1_7 c1_8 c1_9 g1_0 g1_1 g1_2 g1_3 g1_4 g1_5 g1_6 g1_7 g1_8 g1_9 B1 st2 R1_0 R1_1 hb2
  go_wp2_with fail
  go_at_call 74
  refine (in_any by_ 0 60 _).mono ?_
  rw [hin]
  rintro e w' ⟨rfl, rfl⟩
  go_wp2_with fail
  refine bodyPost_ret (v := .tuple #[.agg #[.int .i64 o, .int .i64 s, .int .i64 (ag + by_), .slice ra n rc, .slice sa m sc], .bool true]) (by simp [results, Try.results75, go_sem, *]) rfl ⟨_, _, by rw [Hb.out, Ha.out], ?_, ?_⟩
  · exact (((((((R2_1.out.setCell (.inr (by simp <;> omega)) _).setCell (.inl (by simp <;> omega)) _).setCell (.inl (by simp <;> omega)) _).setCell (.inl (by simp <;> omega)) _).setCell (.inl (by simp <;> omega)) _).setCell (.inl (by simp <;> omega)) _).wide (by omega) (by simp [World.setCell] <;> omega))
  · exact (((((B2.out.setCell (by simp <;> omega) _).setCell (by simp <;> omega) _).setCell (by simp <;> omega) _).setCell (by simp <;> omega) _).setCell (by simp <;> omega) _).setCell (by simp <;> omega) _

set_option linter.unusedVariables false in
set_option maxRecDepth 100000 in
set_option maxHeartbeats 4000000 in
theorem sage_4 (o s ag by_ : Int) (lo hi n m : Nat) (u v : Value) (K : List Lk) (T : List Ed) (w : World) (hK : K.length = n) (hT : T.length = m) (hr : LRow w lo hi u v n m (flat2 K) (flat T)) (hh : hi ≤ w.heap.size) (hn : n ≤ 1048576) (hm : m ≤ 1048576) (hv : lokB o s ag K T = true) (hin : inB by_ 0 60 = true) (h5 : 60 < ag + by_) (hb : agB o s ag by_ K T = true) :
    Calls Try.prog 75 #[.agg #[.int .i64 o, .int .i64 s, .int .i64 ag, u, v], .int .i64 by_] w fun e w' => ∃ ru rv, e = .returned (.tuple #[.agg #[.int .i64 o, .int .i64 s, .int .i64 (agV o s ag by_ K T), ru, rv], .bool (agB o s ag by_ K T)]) ∧ LRow w' w.heap.size w'.heap.size ru rv n m (flat2 K) (flat T) ∧ Below w.heap.size w w' := by
  have hg := lok_bd' hv
  obtain ⟨ga, gb⟩ := hg
  have hbb : 0 ≤ by_ ∧ by_ ≤ 60 := inB_iff.1 hin
  obtain ⟨bb0, bb1⟩ := hbb
  have Hb := Lib.hid hb
  have Ha : Hid (agV o s ag by_ K T = 60) := Lib.hid (by rw [agV_yes hb]; first | exact if_pos h5 | exact if_neg h5)
  clear hb
  have HK := Lib.hid hK
  have HT := Lib.hid hT
  have Hv := Lib.hid hv
  have R0 := Lib.hid hr
  obtain ⟨ad, cp, ae, cq, rfl, rfl⟩ := hr.slice
  clear hr hK hT hv
  go_enter Try.func75, Try.ntmps75
  go_wp2_with fail
  go_at_call 58
  refine (scopy_any o s ag lo hi n m _ _ K T _ HK.out HT.out (R0.out.below (B := w.heap.size) (by go_grown) (by omega)) (by first | omega | (simp; omega)) hn hm).mono ?_
  rintro e v1 ⟨ru, rv, rfl, hr1, hb1⟩
  have sz1 : w.heap.size + 2 ≤ v1.heap.size := by have hh := hb1.size; simp at hh; omega
  have st1 : Below w.heap.size w v1 := Below.trans (by go_grown) (hb1.mono (by simp <;> omega))
  have c1_0 : v1.cell? ⟨w.heap.size, 0, none⟩ = some (.int .i64 o) := by rw [(bcell hb1).1 _ _ (by simp <;> omega), old_box (by simp <;> omega)]; first | (rw [new_at (by simp)]; rfl) | simp
  have c1_1 : v1.cell? ⟨w.heap.size, 1, none⟩ = some (.int .i64 s) := by rw [(bcell hb1).1 _ _ (by simp <;> omega), old_box (by simp <;> omega)]; first | (rw [new_at (by simp)]; rfl) | simp
  have c1_2 : v1.cell? ⟨w.heap.size, 2, none⟩ = some (.int .i64 ag) := by rw [(bcell hb1).1 _ _ (by simp <;> omega), old_box (by simp <;> omega)]; first | (rw [new_at (by simp)]; rfl) | simp
  have c1_3 : v1.cell? ⟨w.heap.size, 3, none⟩ = some (.slice ad n cp) := by rw [(bcell hb1).1 _ _ (by simp <;> omega), old_box (by simp <;> omega)]; first | (rw [new_at (by simp)]; rfl) | simp
  have c1_4 : v1.cell? ⟨w.heap.size, 4, none⟩ = some (.slice ae m cq) := by rw [(bcell hb1).1 _ _ (by simp <;> omega), old_box (by simp <;> omega)]; first | (rw [new_at (by simp)]; rfl) | simp
  have c1_5 : v1.cell? ⟨w.heap.size + 1, 0, none⟩ = some (.int .i64 0) := by rw [(bcell hb1).1 _ _ (by simp)]; first | (rw [new_at (by simp)]; rfl) | simp
  have c1_6 : v1.cell? ⟨w.heap.size + 1, 1, none⟩ = some (.int .i64 0) := by rw [(bcell hb1).1 _ _ (by simp)]; first | (rw [new_at (by simp)]; rfl) | simp
  have c1_7 : v1.cell? ⟨w.heap.size + 1, 2, none⟩ = some (.int .i64 0) := by rw [(bcell hb1).1 _ _ (by simp)]; first | (rw [new_at (by simp)]; rfl) | simp
  have c1_8 : v1.cell? ⟨w.heap.size + 1, 3, none⟩ = some (.slice none 0 0) := by rw [(bcell hb1).1 _ _ (by simp)]; first | (rw [new_at (by simp)]; rfl) | simp
  have c1_9 : v1.cell? ⟨w.heap.size + 1, 4, none⟩ = some (.slice none 0 0) := by rw [(bcell hb1).1 _ _ (by simp)]; first | (rw [new_at (by simp)]; rfl) | simp
  have g1_0 : v1.frozen? ⟨w.heap.size, 0, none⟩ = false := by rw [(bcell hb1).2 _ _ (by simp <;> omega), old_frz (by simp <;> omega), new_frz (by simp)]
  have g1_1 : v1.frozen? ⟨w.heap.size, 1, none⟩ = false := by rw [(bcell hb1).2 _ _ (by simp <;> omega), old_frz (by simp <;> omega), new_frz (by simp)]
  have g1_2 : v1.frozen? ⟨w.heap.size, 2, none⟩ = false := by rw [(bcell hb1).2 _ _ (by simp <;> omega), old_frz (by simp <;> omega), new_frz (by simp)]
  have g1_3 : v1.frozen? ⟨w.heap.size, 3, none⟩ = false := by rw [(bcell hb1).2 _ _ (by simp <;> omega), old_frz (by simp <;> omega), new_frz (by simp)]
  have g1_4 : v1.frozen? ⟨w.heap.size, 4, none⟩ = false := by rw [(bcell hb1).2 _ _ (by simp <;> omega), old_frz (by simp <;> omega), new_frz (by simp)]
  have g1_5 : v1.frozen? ⟨w.heap.size + 1, 0, none⟩ = false := by rw [(bcell hb1).2 _ _ (by simp), new_frz (by simp)]
  have g1_6 : v1.frozen? ⟨w.heap.size + 1, 1, none⟩ = false := by rw [(bcell hb1).2 _ _ (by simp), new_frz (by simp)]
  have g1_7 : v1.frozen? ⟨w.heap.size + 1, 2, none⟩ = false := by rw [(bcell hb1).2 _ _ (by simp), new_frz (by simp)]
  have g1_8 : v1.frozen? ⟨w.heap.size + 1, 3, none⟩ = false := by rw [(bcell hb1).2 _ _ (by simp), new_frz (by simp)]
  have g1_9 : v1.frozen? ⟨w.heap.size + 1, 4, none⟩ = false := by rw [(bcell hb1).2 _ _ (by simp), new_frz (by simp)]
  have B1 : Hid (Below w.heap.size w v1) := st1
  have R1_0 : Hid (LRow v1 (lo) (hi) (.slice ad n cp) (.slice ae m cq) n m (flat2 K) (flat T)) := R0.out.below st1 (by omega)
  have R1_1 : Hid (LRow v1 (w.heap.size + 2) (v1.heap.size) ru rv n m (flat2 K) (flat T)) := Lib.hid (hr1.wide (by simp) (Nat.le_refl _))
  have d1_0 : w.heap.size < v1.heap.size := by omega
  have e1_0 : w.heap.size ≠ v1.heap.size := by omega
  have d1_1 : w.heap.size + 1 < v1.heap.size := by omega
  have e1_1 : w.heap.size + 1 ≠ v1.heap.size := by omega
  clear st1 R0 hb1
  obtain ⟨ra, rc, sa, sc, rfl, rfl⟩ := R1_1.out.slice
  clear hr1
  go_wp2_with fail
  go_at_call 48
  refine (slok_any o s ag lo hi lo hi n m _ _ K T _ HK.out HT.out ((R1_0.out.below (B := v1.heap.size) (by go_grown) (by omega))).fst ((R1_0.out.below (B := v1.heap.size) (by go_grown) (by omega))).snd (by first | omega | (simp; omega)) (by first | omega | (simp; omega))).mono ?_
  rw [Hv.out]
  rintro e v2 ⟨rfl, hb2⟩
  have sz2 : v1.heap.size + 1 ≤ v2.heap.size := by have hh := hb2.size; simp at hh; omega
  have st2 : Below v1.heap.size v1 v2 := Below.trans (by go_grown) (hb2.mono (by simp))
  have c2_0 : v2.cell? ⟨w.heap.size, 0, none⟩ = some (.int .i64 o) := by rw [(bcell st2).1 _ _ (by omega)]; exact c1_0
  have c2_1 : v2.cell? ⟨w.heap.size, 1, none⟩ = some (.int .i64 s) := by rw [(bcell st2).1 _ _ (by omega)]; exact c1_1
  have c2_2 : v2.cell? ⟨w.heap.size, 2, none⟩ = some (.int .i64 ag) := by rw [(bcell st2).1 _ _ (by omega)]; exact c1_2
  have c2_3 : v2.cell? ⟨w.heap.size, 3, none⟩ = some (.slice ad n cp) := by rw [(bcell st2).1 _ _ (by omega)]; exact c1_3
  have c2_4 : v2.cell? ⟨w.heap.size, 4, none⟩ = some (.slice ae m cq) := by rw [(bcell st2).1 _ _ (by omega)]; exact c1_4
  have c2_5 : v2.cell? ⟨w.heap.size + 1, 0, none⟩ = some (.int .i64 0) := by rw [(bcell st2).1 _ _ (by omega)]; exact c1_5
  have c2_6 : v2.cell? ⟨w.heap.size + 1, 1, none⟩ = some (.int .i64 0) := by rw [(bcell st2).1 _ _ (by omega)]; exact c1_6
  have c2_7 : v2.cell? ⟨w.heap.size + 1, 2, none⟩ = some (.int .i64 0) := by rw [(bcell st2).1 _ _ (by omega)]; exact c1_7
  have c2_8 : v2.cell? ⟨w.heap.size + 1, 3, none⟩ = some (.slice none 0 0) := by rw [(bcell st2).1 _ _ (by omega)]; exact c1_8
  have c2_9 : v2.cell? ⟨w.heap.size + 1, 4, none⟩ = some (.slice none 0 0) := by rw [(bcell st2).1 _ _ (by omega)]; exact c1_9
  have c2_10 : v2.cell? ⟨v1.heap.size, 0, none⟩ = some (.int .i64 o) := by rw [(bcell hb2).1 _ _ (by simp)]; first | (rw [new_at (by simp)]; rfl) | simp
  have c2_11 : v2.cell? ⟨v1.heap.size, 1, none⟩ = some (.int .i64 s) := by rw [(bcell hb2).1 _ _ (by simp)]; first | (rw [new_at (by simp)]; rfl) | simp
  have c2_12 : v2.cell? ⟨v1.heap.size, 2, none⟩ = some (.int .i64 ag) := by rw [(bcell hb2).1 _ _ (by simp)]; first | (rw [new_at (by simp)]; rfl) | simp
  have c2_13 : v2.cell? ⟨v1.heap.size, 3, none⟩ = some (.slice ra n rc) := by rw [(bcell hb2).1 _ _ (by simp)]; first | (rw [new_at (by simp)]; rfl) | simp
  have c2_14 : v2.cell? ⟨v1.heap.size, 4, none⟩ = some (.slice sa m sc) := by rw [(bcell hb2).1 _ _ (by simp)]; first | (rw [new_at (by simp)]; rfl) | simp
  have g2_0 : v2.frozen? ⟨w.heap.size, 0, none⟩ = false := by rw [(bcell st2).2 _ _ (by omega)]; exact g1_0
  have g2_1 : v2.frozen? ⟨w.heap.size, 1, none⟩ = false := by rw [(bcell st2).2 _ _ (by omega)]; exact g1_1
  have g2_2 : v2.frozen? ⟨w.heap.size, 2, none⟩ = false := by rw [(bcell st2).2 _ _ (by omega)]; exact g1_2
  have g2_3 : v2.frozen? ⟨w.heap.size, 3, none⟩ = false := by rw [(bcell st2).2 _ _ (by omega)]; exact g1_3
  have g2_4 : v2.frozen? ⟨w.heap.size, 4, none⟩ = false := by rw [(bcell st2).2 _ _ (by omega)]; exact g1_4
  have g2_5 : v2.frozen? ⟨w.heap.size + 1, 0, none⟩ = false := by rw [(bcell st2).2 _ _ (by omega)]; exact g1_5
  have g2_6 : v2.frozen? ⟨w.heap.size + 1, 1, none⟩ = false := by rw [(bcell st2).2 _ _ (by omega)]; exact g1_6
  have g2_7 : v2.frozen? ⟨w.heap.size + 1, 2, none⟩ = false := by rw [(bcell st2).2 _ _ (by omega)]; exact g1_7
  have g2_8 : v2.frozen? ⟨w.heap.size + 1, 3, none⟩ = false := by rw [(bcell st2).2 _ _ (by omega)]; exact g1_8
  have g2_9 : v2.frozen? ⟨w.heap.size + 1, 4, none⟩ = false := by rw [(bcell st2).2 _ _ (by omega)]; exact g1_9
  have g2_10 : v2.frozen? ⟨v1.heap.size, 0, none⟩ = false := by rw [(bcell hb2).2 _ _ (by simp), new_frz (by simp)]
  have g2_11 : v2.frozen? ⟨v1.heap.size, 1, none⟩ = false := by rw [(bcell hb2).2 _ _ (by simp), new_frz (by simp)]
  have g2_12 : v2.frozen? ⟨v1.heap.size, 2, none⟩ = false := by rw [(bcell hb2).2 _ _ (by simp), new_frz (by simp)]
  have g2_13 : v2.frozen? ⟨v1.heap.size, 3, none⟩ = false := by rw [(bcell hb2).2 _ _ (by simp), new_frz (by simp)]
  have g2_14 : v2.frozen? ⟨v1.heap.size, 4, none⟩ = false := by rw [(bcell hb2).2 _ _ (by simp), new_frz (by simp)]
  have B2 : Hid (Below w.heap.size w v2) := B1.out.trans (st2.mono (by omega))
  have R2_0 : Hid (LRow v2 (lo) (hi) (.slice ad n cp) (.slice ae m cq) n m (flat2 K) (flat T)) := R1_0.out.below st2 (by omega)
  have R2_1 : Hid (LRow v2 (w.heap.size + 2) (v1.heap.size) (.slice ra n rc) (.slice sa m sc) n m (flat2 K) (flat T)) := R1_1.out.below st2 (by omega)
  have d2_0 : w.heap.size < v2.heap.size := by omega
  have e2_0 : w.heap.size ≠ v2.heap.size := by omega
  have d2_1 : w.heap.size + 1 < v2.heap.size := by omega
  have e2_1 : w.heap.size + 1 ≠ v2.heap.size := by omega
  have d2_2 : v1.heap.size < v2.heap.size := by omega
  have e2_2 : v1.heap.size ≠ v2.heap.size := by omega
  clear d1_0 e1_0 d1_1 e1_1 c1_0 c1_1 c1_2 c1_3 c1_4 c1_5 c1_6 c1_7 c1_8 c1_9 g1_0 g1_1 g1_2 g1_3 g1_4 g1_5 g1_6 g1_7 g1_8 g1_9 B1 st2 R1_0 R1_1 hb2
  go_wp2_with fail
  go_at_call 74
  refine (in_any by_ 0 60 _).mono ?_
  rw [hin]
  rintro e w' ⟨rfl, rfl⟩
  go_wp2_with fail
  refine bodyPost_ret (v := .tuple #[.agg #[.int .i64 o, .int .i64 s, .int .i64 (60), .slice ra n rc, .slice sa m sc], .bool true]) (by simp [results, Try.results75, go_sem, *]) rfl ⟨_, _, by rw [Hb.out, Ha.out], ?_, ?_⟩
  · exact ((((((((R2_1.out.setCell (.inr (by simp <;> omega)) _).setCell (.inr (by simp <;> omega)) _).setCell (.inl (by simp <;> omega)) _).setCell (.inl (by simp <;> omega)) _).setCell (.inl (by simp <;> omega)) _).setCell (.inl (by simp <;> omega)) _).setCell (.inl (by simp <;> omega)) _).wide (by omega) (by simp [World.setCell] <;> omega))
  · exact ((((((B2.out.setCell (by simp <;> omega) _).setCell (by simp <;> omega) _).setCell (by simp <;> omega) _).setCell (by simp <;> omega) _).setCell (by simp <;> omega) _).setCell (by simp <;> omega) _).setCell (by simp <;> omega) _

theorem sage_any (o s ag by_ : Int) (lo hi n m : Nat) (u v : Value) (K : List Lk) (T : List Ed) (w : World) (hK : K.length = n) (hT : T.length = m) (hr : LRow w lo hi u v n m (flat2 K) (flat T)) (hh : hi ≤ w.heap.size) (hn : n ≤ 1048576) (hm : m ≤ 1048576) :
    Calls Try.prog 75 #[.agg #[.int .i64 o, .int .i64 s, .int .i64 ag, u, v], .int .i64 by_] w fun e w' => ∃ ru rv, e = .returned (.tuple #[.agg #[.int .i64 o, .int .i64 s, .int .i64 (agV o s ag by_ K T), ru, rv], .bool (agB o s ag by_ K T)]) ∧ LRow w' w.heap.size w'.heap.size ru rv n m (flat2 K) (flat T) ∧ Below w.heap.size w w' := by
  cases hv : lokB o s ag K T
  · exact sage_0 o s ag by_ lo hi n m u v K T w hK hT hr hh hn hm hv (by unfold agB; rw [hv]; rfl)
  cases hin : inB by_ 0 60
  · exact sage_1 o s ag by_ lo hi n m u v K T w hK hT hr hh hn hm hv hin (by unfold agB; rw [hv, hin]; rfl)
  by_cases h5 : 60 < ag + by_
  · exact sage_4 o s ag by_ lo hi n m u v K T w hK hT hr hh hn hm hv hin h5 (by unfold agB; rw [hv, hin]; rfl)
  · exact sage_3 o s ag by_ lo hi n m u v K T w hK hT hr hh hn hm hv hin h5 (by unfold agB; rw [hv, hin]; rfl)

end Go.Proofs.Ytfpafjdakipccaa
