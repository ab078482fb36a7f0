/- The successor of an advertisement, by both. -/
import Derived.Test.YtcaoohcfoccedaaZ2
import Derived.Test.YtcaoohcfoccedaaX5
namespace Go.Proofs.Ytcaoohcfoccedaa
open Go.RowKit

theorem lok_bds {o s ag : Int} {K : List Lk} {T : List Ed} (h : lokB o s ag K T = true) : 1 ≤ s ∧ s ≤ 1000000 := by
  unfold lokB at h
  rw [Bool.and_eq_true, Bool.and_eq_true, Bool.and_eq_true, Bool.and_eq_true, inB_iff, inB_iff, inB_iff] at h
  omega

set_option linter.unusedVariables false in
set_option maxRecDepth 100000 in
set_option maxHeartbeats 4000000 in
theorem inext_0 (o s ag : Int) (lo hi n m lo1 hi1 n1 lo2 hi2 n2 : Nat) (u v v1 v2 : Value) (K : List Lk) (T : List Ed) (K2 : List Lk) (T2 : List Ed) (w : World) (hK : K.length = n) (hT : T.length = m) (hK2 : K2.length = n1) (hT2 : T2.length = n2) (hr : LRow w lo hi u v n m (flat2 K) (flat T)) (hh : hi ≤ w.heap.size) (hr1 : Row 2 w lo1 hi1 v1 n1 (flat2 K2)) (hh1 : hi1 ≤ w.heap.size) (hr2 : Row 3 w lo2 hi2 v2 n2 (flat T2)) (hh2 : hi2 ≤ w.heap.size) (h12 : hi1 ≤ lo2) (hn1 : n1 ≤ 1048576) (hn2 : n2 ≤ 1048576) (hv : lokB o s ag K T = false) :
    Calls Try.prog 38 #[.agg #[.int .i64 o, .int .i64 s, .int .i64 ag, u, v], v1, v2] w fun e w' => ∃ ru rv, e = .returned (.tuple #[.agg #[.int .i64 0, .int .i64 0, .int .i64 0, ru, rv], .bool false]) ∧ LRow w' w.heap.size w'.heap.size ru rv 0 0 [] [] ∧ Below w.heap.size w w' := by
  have Hv := Lib.hid hv
  clear hv
  have HK := Lib.hid hK
  have HT := Lib.hid hT
  have HK2 := Lib.hid hK2
  have HT2 := Lib.hid hT2
  have R0 := Lib.hid hr
  have R1 : Hid (LRow w 0 w.heap.size v1 v2 n1 n2 (flat2 K2) (flat T2)) := Lib.hid ⟨hi1, Nat.zero_le _, hh1, hr1.wide (Nat.zero_le _) (Nat.le_refl _), hr2.wide h12 hh2⟩
  obtain ⟨ad, cp, ae, cq, rfl, rfl⟩ := hr.slice
  obtain ⟨bd, dp, rfl⟩ := hr1.slice
  obtain ⟨be, dq, rfl⟩ := hr2.slice
  clear hr hK hT hr1 hr2 hK2 hT2
  go_enter Try.func38, Try.ntmps38
  go_wp2_with fail
  go_at_call 58
  refine (icopy_any o (wrap64 (s + 1)) 0 0 w.heap.size n1 n2 _ _ K2 T2 _ HK2.out HT2.out (R1.out.below (B := w.heap.size) (by go_grown) (by omega)) (by first | omega | (simp; done) | (simp; omega)) hn1 hn2).mono ?_
  rintro e v1 ⟨ru, rv, rfl, hrc, hb1⟩
  have sz1 : w.heap.size + 2 ≤ v1.heap.size := by have hh := hb1.size; simp at hh; omega
  have st1 : Below w.heap.size w v1 := Below.trans (by go_grown) (hb1.mono (by simp <;> omega))
  have c1_0 : v1.cell? ⟨w.heap.size, 0, none⟩ = some (.int .i64 o) := by rw [(bcell hb1).1 _ _ (by simp <;> omega), old_box (by simp <;> omega)]; first | (rw [new_at (by simp)]; rfl) | simp
  have c1_1 : v1.cell? ⟨w.heap.size, 1, none⟩ = some (.int .i64 s) := by rw [(bcell hb1).1 _ _ (by simp <;> omega), old_box (by simp <;> omega)]; first | (rw [new_at (by simp)]; rfl) | simp
  have c1_2 : v1.cell? ⟨w.heap.size, 2, none⟩ = some (.int .i64 ag) := by rw [(bcell hb1).1 _ _ (by simp <;> omega), old_box (by simp <;> omega)]; first | (rw [new_at (by simp)]; rfl) | simp
  have c1_3 : v1.cell? ⟨w.heap.size, 3, none⟩ = some (.slice ad n cp) := by rw [(bcell hb1).1 _ _ (by simp <;> omega), old_box (by simp <;> omega)]; first | (rw [new_at (by simp)]; rfl) | simp
  have c1_4 : v1.cell? ⟨w.heap.size, 4, none⟩ = some (.slice ae m cq) := by rw [(bcell hb1).1 _ _ (by simp <;> omega), old_box (by simp <;> omega)]; first | (rw [new_at (by simp)]; rfl) | simp
  have c1_5 : v1.cell? ⟨w.heap.size + 1, 0, none⟩ = some (.int .i64 0) := by rw [(bcell hb1).1 _ _ (by simp)]; first | (rw [new_at (by simp)]; rfl) | simp
  have c1_6 : v1.cell? ⟨w.heap.size + 1, 1, none⟩ = some (.int .i64 0) := by rw [(bcell hb1).1 _ _ (by simp)]; first | (rw [new_at (by simp)]; rfl) | simp
  have c1_7 : v1.cell? ⟨w.heap.size + 1, 2, none⟩ = some (.int .i64 0) := by rw [(bcell hb1).1 _ _ (by simp)]; first | (rw [new_at (by simp)]; rfl) | simp
  have c1_8 : v1.cell? ⟨w.heap.size + 1, 3, none⟩ = some (.slice none 0 0) := by rw [(bcell hb1).1 _ _ (by simp)]; first | (rw [new_at (by simp)]; rfl) | simp
  have c1_9 : v1.cell? ⟨w.heap.size + 1, 4, none⟩ = some (.slice none 0 0) := by rw [(bcell hb1).1 _ _ (by simp)]; first | (rw [new_at (by simp)]; rfl) | simp
  have g1_0 : v1.frozen? ⟨w.heap.size, 0, none⟩ = false := by rw [(bcell hb1).2 _ _ (by simp <;> omega), old_frz (by simp <;> omega), new_frz (by simp)]
  have g1_1 : v1.frozen? ⟨w.heap.size, 1, none⟩ = false := by rw [(bcell hb1).2 _ _ (by simp <;> omega), old_frz (by simp <;> omega), new_frz (by simp)]
  have g1_2 : v1.frozen? ⟨w.heap.size, 2, none⟩ = false := by rw [(bcell hb1).2 _ _ (by simp <;> omega), old_frz (by simp <;> omega), new_frz (by simp)]
  have g1_3 : v1.frozen? ⟨w.heap.size, 3, none⟩ = false := by rw [(bcell hb1).2 _ _ (by simp <;> omega), old_frz (by simp <;> omega), new_frz (by simp)]
  have g1_4 : v1.frozen? ⟨w.heap.size, 4, none⟩ = false := by rw [(bcell hb1).2 _ _ (by simp <;> omega), old_frz (by simp <;> omega), new_frz (by simp)]
  have g1_5 : v1.frozen? ⟨w.heap.size + 1, 0, none⟩ = false := by rw [(bcell hb1).2 _ _ (by simp), new_frz (by simp)]
  have g1_6 : v1.frozen? ⟨w.heap.size + 1, 1, none⟩ = false := by rw [(bcell hb1).2 _ _ (by simp), new_frz (by simp)]
  have g1_7 : v1.frozen? ⟨w.heap.size + 1, 2, none⟩ = false := by rw [(bcell hb1).2 _ _ (by simp), new_frz (by simp)]
  have g1_8 : v1.frozen? ⟨w.heap.size + 1, 3, none⟩ = false := by rw [(bcell hb1).2 _ _ (by simp), new_frz (by simp)]
  have g1_9 : v1.frozen? ⟨w.heap.size + 1, 4, none⟩ = false := by rw [(bcell hb1).2 _ _ (by simp), new_frz (by simp)]
  have B1 : Hid (Below w.heap.size w v1) := st1
  have R1_0 : Hid (LRow v1 (lo) (hi) (.slice ad n cp) (.slice ae m cq) n m (flat2 K) (flat T)) := R0.out.below st1 (by omega)
  have R1_1 : Hid (LRow v1 (0) (w.heap.size) (.slice bd n1 dp) (.slice be n2 dq) n1 n2 (flat2 K2) (flat T2)) := R1.out.below st1 (by omega)
  have R1_2 : Hid (LRow v1 (w.heap.size + 2) (v1.heap.size) ru rv n1 n2 (flat2 K2) (flat T2)) := Lib.hid (hrc.wide (by simp) (Nat.le_refl _))
  have d1_0 : w.heap.size < v1.heap.size := by omega
  have e1_0 : w.heap.size ≠ v1.heap.size := by omega
  have d1_1 : w.heap.size + 1 < v1.heap.size := by omega
  have e1_1 : w.heap.size + 1 ≠ v1.heap.size := by omega
  clear st1 R0 R1 hb1
  obtain ⟨ra, rc, sa, sc, rfl, rfl⟩ := R1_2.out.slice
  clear hrc
  go_wp2_with fail
  go_at_call 14
  refine (ilok_any o s ag lo hi lo hi n m _ _ K T _ HK.out HT.out ((R1_0.out.below (B := v1.heap.size) (by go_grown) (by omega))).fst ((R1_0.out.below (B := v1.heap.size) (by go_grown) (by omega))).snd (by first | omega | (simp; done) | (simp; omega)) (by first | omega | (simp; done) | (simp; omega))).mono ?_
  rw [Hv.out]
  rintro e v2 ⟨rfl, hb2⟩
  have sz2 : v1.heap.size + 1 ≤ v2.heap.size := by have hh := hb2.size; simp at hh; omega
  have st2 : Below v1.heap.size v1 v2 := Below.trans (by go_grown) (hb2.mono (by simp))
  have c2_0 : v2.cell? ⟨w.heap.size, 0, none⟩ = some (.int .i64 o) := by rw [(bcell st2).1 _ _ (by omega)]; exact c1_0
  have c2_1 : v2.cell? ⟨w.heap.size, 1, none⟩ = some (.int .i64 s) := by rw [(bcell st2).1 _ _ (by omega)]; exact c1_1
  have c2_2 : v2.cell? ⟨w.heap.size, 2, none⟩ = some (.int .i64 ag) := by rw [(bcell st2).1 _ _ (by omega)]; exact c1_2
  have c2_3 : v2.cell? ⟨w.heap.size, 3, none⟩ = some (.slice ad n cp) := by rw [(bcell st2).1 _ _ (by omega)]; exact c1_3
  have c2_4 : v2.cell? ⟨w.heap.size, 4, none⟩ = some (.slice ae m cq) := by rw [(bcell st2).1 _ _ (by omega)]; exact c1_4
  have c2_5 : v2.cell? ⟨w.heap.size + 1, 0, none⟩ = some (.int .i64 0) := by rw [(bcell st2).1 _ _ (by omega)]; exact c1_5
  have c2_6 : v2.cell? ⟨w.heap.size + 1, 1, none⟩ = some (.int .i64 0) := by rw [(bcell st2).1 _ _ (by omega)]; exact c1_6
  have c2_7 : v2.cell? ⟨w.heap.size + 1, 2, none⟩ = some (.int .i64 0) := by rw [(bcell st2).1 _ _ (by omega)]; exact c1_7
  have c2_8 : v2.cell? ⟨w.heap.size + 1, 3, none⟩ = some (.slice none 0 0) := by rw [(bcell st2).1 _ _ (by omega)]; exact c1_8
  have c2_9 : v2.cell? ⟨w.heap.size + 1, 4, none⟩ = some (.slice none 0 0) := by rw [(bcell st2).1 _ _ (by omega)]; exact c1_9
  have c2_10 : v2.cell? ⟨v1.heap.size, 0, none⟩ = some (.int .i64 o) := by rw [(bcell hb2).1 _ _ (by simp)]; first | (rw [new_at (by simp)]; rfl) | simp
  have c2_11 : v2.cell? ⟨v1.heap.size, 1, none⟩ = some (.int .i64 (wrap64 (s + 1))) := by rw [(bcell hb2).1 _ _ (by simp)]; first | (rw [new_at (by simp)]; rfl) | simp
  have c2_12 : v2.cell? ⟨v1.heap.size, 2, none⟩ = some (.int .i64 0) := by rw [(bcell hb2).1 _ _ (by simp)]; first | (rw [new_at (by simp)]; rfl) | simp
  have c2_13 : v2.cell? ⟨v1.heap.size, 3, none⟩ = some (.slice ra n1 rc) := by rw [(bcell hb2).1 _ _ (by simp)]; first | (rw [new_at (by simp)]; rfl) | simp
  have c2_14 : v2.cell? ⟨v1.heap.size, 4, none⟩ = some (.slice sa n2 sc) := by rw [(bcell hb2).1 _ _ (by simp)]; first | (rw [new_at (by simp)]; rfl) | simp
  have g2_0 : v2.frozen? ⟨w.heap.size, 0, none⟩ = false := by rw [(bcell st2).2 _ _ (by omega)]; exact g1_0
  have g2_1 : v2.frozen? ⟨w.heap.size, 1, none⟩ = false := by rw [(bcell st2).2 _ _ (by omega)]; exact g1_1
  have g2_2 : v2.frozen? ⟨w.heap.size, 2, none⟩ = false := by rw [(bcell st2).2 _ _ (by omega)]; exact g1_2
  have g2_3 : v2.frozen? ⟨w.heap.size, 3, none⟩ = false := by rw [(bcell st2).2 _ _ (by omega)]; exact g1_3
  have g2_4 : v2.frozen? ⟨w.heap.size, 4, none⟩ = false := by rw [(bcell st2).2 _ _ (by omega)]; exact g1_4
  have g2_5 : v2.frozen? ⟨w.heap.size + 1, 0, none⟩ = false := by rw [(bcell st2).2 _ _ (by omega)]; exact g1_5
  have g2_6 : v2.frozen? ⟨w.heap.size + 1, 1, none⟩ = false := by rw [(bcell st2).2 _ _ (by omega)]; exact g1_6
  have g2_7 : v2.frozen? ⟨w.heap.size + 1, 2, none⟩ = false := by rw [(bcell st2).2 _ _ (by omega)]; exact g1_7
  have g2_8 : v2.frozen? ⟨w.heap.size + 1, 3, none⟩ = false := by rw [(bcell st2).2 _ _ (by omega)]; exact g1_8
  have g2_9 : v2.frozen? ⟨w.heap.size + 1, 4, none⟩ = false := by rw [(bcell st2).2 _ _ (by omega)]; exact g1_9
  have B2 : Hid (Below w.heap.size w v2) := B1.out.trans (st2.mono (by omega))
  have R2_0 : Hid (LRow v2 (lo) (hi) (.slice ad n cp) (.slice ae m cq) n m (flat2 K) (flat T)) := R1_0.out.below st2 (by omega)
  have R2_1 : Hid (LRow v2 (0) (w.heap.size) (.slice bd n1 dp) (.slice be n2 dq) n1 n2 (flat2 K2) (flat T2)) := R1_1.out.below st2 (by omega)
  have R2_2 : Hid (LRow v2 (w.heap.size + 2) (v1.heap.size) (.slice ra n1 rc) (.slice sa n2 sc) n1 n2 (flat2 K2) (flat T2)) := R1_2.out.below st2 (by omega)
  have d2_0 : w.heap.size < v2.heap.size := by omega
  have e2_0 : w.heap.size ≠ v2.heap.size := by omega
  have d2_1 : w.heap.size + 1 < v2.heap.size := by omega
  have e2_1 : w.heap.size + 1 ≠ v2.heap.size := by omega
  have d2_2 : v1.heap.size < v2.heap.size := by omega
  have e2_2 : v1.heap.size ≠ v2.heap.size := by omega
  clear d1_0 e1_0 d1_1 e1_1 c1_0 c1_1 c1_2 c1_3 c1_4 c1_5 c1_6 c1_7 c1_8 c1_9 g1_0 g1_1 g1_2 g1_3 g1_4 g1_5 g1_6 g1_7 g1_8 g1_9 B1 st2 R1_0 R1_1 R1_2 hb2
  go_wp2_with fail
  refine bodyPost_ret (v := .tuple #[.agg #[.int .i64 0, .int .i64 0, .int .i64 0, .slice none 0 0, .slice none 0 0], .bool false]) (by simp [results, Try.results38, go_sem, *]) rfl ⟨_, _, rfl, ⟨w.heap.size, Nat.le_refl _, ?_, ⟨rfl, .inl ⟨rfl, none, 0, rfl⟩⟩, ⟨rfl, .inl ⟨rfl, none, 0, rfl⟩⟩⟩, ?_⟩
  · simp [World.setCell] <;> omega
  · exact ((((B2.out.setCell (by simp <;> omega) _).setCell (by simp <;> omega) _).setCell (by simp <;> omega) _).setCell (by simp <;> omega) _).setCell (by simp <;> omega) _

set_option linter.unusedVariables false in
set_option maxRecDepth 100000 in
set_option maxHeartbeats 4000000 in
theorem inext_1 (o s ag : Int) (lo hi n m lo1 hi1 n1 lo2 hi2 n2 : Nat) (u v v1 v2 : Value) (K : List Lk) (T : List Ed) (K2 : List Lk) (T2 : List Ed) (w : World) (hK : K.length = n) (hT : T.length = m) (hK2 : K2.length = n1) (hT2 : T2.length = n2) (hr : LRow w lo hi u v n m (flat2 K) (flat T)) (hh : hi ≤ w.heap.size) (hr1 : Row 2 w lo1 hi1 v1 n1 (flat2 K2)) (hh1 : hi1 ≤ w.heap.size) (hr2 : Row 3 w lo2 hi2 v2 n2 (flat T2)) (hh2 : hi2 ≤ w.heap.size) (h12 : hi1 ≤ lo2) (hn1 : n1 ≤ 1048576) (hn2 : n2 ≤ 1048576) (hv : lokB o s ag K T = true) (hw : lokB o (s + 1) 0 K2 T2 = false) :
    Calls Try.prog 38 #[.agg #[.int .i64 o, .int .i64 s, .int .i64 ag, u, v], v1, v2] w fun e w' => ∃ ru rv, e = .returned (.tuple #[.agg #[.int .i64 0, .int .i64 0, .int .i64 0, ru, rv], .bool false]) ∧ LRow w' w.heap.size w'.heap.size ru rv 0 0 [] [] ∧ Below w.heap.size w w' := by
  have hbd := lok_bds hv
  obtain ⟨sb0, sb1⟩ := hbd
  have Hv := Lib.hid hv
  have Hw := Lib.hid hw
  clear hv hw
  have HK := Lib.hid hK
  have HT := Lib.hid hT
  have HK2 := Lib.hid hK2
  have HT2 := Lib.hid hT2
  have R0 := Lib.hid hr
  have R1 : Hid (LRow w 0 w.heap.size v1 v2 n1 n2 (flat2 K2) (flat T2)) := Lib.hid ⟨hi1, Nat.zero_le _, hh1, hr1.wide (Nat.zero_le _) (Nat.le_refl _), hr2.wide h12 hh2⟩
  obtain ⟨ad, cp, ae, cq, rfl, rfl⟩ := hr.slice
  obtain ⟨bd, dp, rfl⟩ := hr1.slice
  obtain ⟨be, dq, rfl⟩ := hr2.slice
  clear hr hK hT hr1 hr2 hK2 hT2
  go_enter Try.func38, Try.ntmps38
  go_wp2_with fail
  go_at_call 58
  refine (icopy_any o (s + 1) 0 0 w.heap.size n1 n2 _ _ K2 T2 _ HK2.out HT2.out (R1.out.below (B := w.heap.size) (by go_grown) (by omega)) (by first | omega | (simp; done) | (simp; omega)) hn1 hn2).mono ?_
  rintro e v1 ⟨ru, rv, rfl, hrc, hb1⟩
  have sz1 : w.heap.size + 2 ≤ v1.heap.size := by have hh := hb1.size; simp at hh; omega
  have st1 : Below w.heap.size w v1 := Below.trans (by go_grown) (hb1.mono (by simp <;> omega))
  have c1_0 : v1.cell? ⟨w.heap.size, 0, none⟩ = some (.int .i64 o) := by rw [(bcell hb1).1 _ _ (by simp <;> omega), old_box (by simp <;> omega)]; first | (rw [new_at (by simp)]; rfl) | simp
  have c1_1 : v1.cell? ⟨w.heap.size, 1, none⟩ = some (.int .i64 s) := by rw [(bcell hb1).1 _ _ (by simp <;> omega), old_box (by simp <;> omega)]; first | (rw [new_at (by simp)]; rfl) | simp
  have c1_2 : v1.cell? ⟨w.heap.size, 2, none⟩ = some (.int .i64 ag) := by rw [(bcell hb1).1 _ _ (by simp <;> omega), old_box (by simp <;> omega)]; first | (rw [new_at (by simp)]; rfl) | simp
  have c1_3 : v1.cell? ⟨w.heap.size, 3, none⟩ = some (.slice ad n cp) := by rw [(bcell hb1).1 _ _ (by simp <;> omega), old_box (by simp <;> omega)]; first | (rw [new_at (by simp)]; rfl) | simp
  have c1_4 : v1.cell? ⟨w.heap.size, 4, none⟩ = some (.slice ae m cq) := by rw [(bcell hb1).1 _ _ (by simp <;> omega), old_box (by simp <;> omega)]; first | (rw [new_at (by simp)]; rfl) | simp
  have c1_5 : v1.cell? ⟨w.heap.size + 1, 0, none⟩ = some (.int .i64 0) := by rw [(bcell hb1).1 _ _ (by simp)]; first | (rw [new_at (by simp)]; rfl) | simp
  have c1_6 : v1.cell? ⟨w.heap.size + 1, 1, none⟩ = some (.int .i64 0) := by rw [(bcell hb1).1 _ _ (by simp)]; first | (rw [new_at (by simp)]; rfl) | simp
  have c1_7 : v1.cell? ⟨w.heap.size + 1, 2, none⟩ = some (.int .i64 0) := by rw [(bcell hb1).1 _ _ (by simp)]; first | (rw [new_at (by simp)]; rfl) | simp
  have c1_8 : v1.cell? ⟨w.heap.size + 1, 3, none⟩ = some (.slice none 0 0) := by rw [(bcell hb1).1 _ _ (by simp)]; first | (rw [new_at (by simp)]; rfl) | simp
  have c1_9 : v1.cell? ⟨w.heap.size + 1, 4, none⟩ = some (.slice none 0 0) := by rw [(bcell hb1).1 _ _ (by simp)]; first | (rw [new_at (by simp)]; rfl) | simp
  have g1_0 : v1.frozen? ⟨w.heap.size, 0, none⟩ = false := by rw [(bcell hb1).2 _ _ (by simp <;> omega), old_frz (by simp <;> omega), new_frz (by simp)]
  have g1_1 : v1.frozen? ⟨w.heap.size, 1, none⟩ = false := by rw [(bcell hb1).2 _ _ (by simp <;> omega), old_frz (by simp <;> omega), new_frz (by simp)]
  have g1_2 : v1.frozen? ⟨w.heap.size, 2, none⟩ = false := by rw [(bcell hb1).2 _ _ (by simp <;> omega), old_frz (by simp <;> omega), new_frz (by simp)]
  have g1_3 : v1.frozen? ⟨w.heap.size, 3, none⟩ = false := by rw [(bcell hb1).2 _ _ (by simp <;> omega), old_frz (by simp <;> omega), new_frz (by simp)]
  have g1_4 : v1.frozen? ⟨w.heap.size, 4, none⟩ = false := by rw [(bcell hb1).2 _ _ (by simp <;> omega), old_frz (by simp <;> omega), new_frz (by simp)]
  have g1_5 : v1.frozen? ⟨w.heap.size + 1, 0, none⟩ = false := by rw [(bcell hb1).2 _ _ (by simp), new_frz (by simp)]
  have g1_6 : v1.frozen? ⟨w.heap.size + 1, 1, none⟩ = false := by rw [(bcell hb1).2 _ _ (by simp), new_frz (by simp)]
  have g1_7 : v1.frozen? ⟨w.heap.size + 1, 2, none⟩ = false := by rw [(bcell hb1).2 _ _ (by simp), new_frz (by simp)]
  have g1_8 : v1.frozen? ⟨w.heap.size + 1, 3, none⟩ = false := by rw [(bcell hb1).2 _ _ (by simp), new_frz (by simp)]
  have g1_9 : v1.frozen? ⟨w.heap.size + 1, 4, none⟩ = false := by rw [(bcell hb1).2 _ _ (by simp), new_frz (by simp)]
  have B1 : Hid (Below w.heap.size w v1) := st1
  have R1_0 : Hid (LRow v1 (lo) (hi) (.slice ad n cp) (.slice ae m cq) n m (flat2 K) (flat T)) := R0.out.below st1 (by omega)
  have R1_1 : Hid (LRow v1 (0) (w.heap.size) (.slice bd n1 dp) (.slice be n2 dq) n1 n2 (flat2 K2) (flat T2)) := R1.out.below st1 (by omega)
  have R1_2 : Hid (LRow v1 (w.heap.size + 2) (v1.heap.size) ru rv n1 n2 (flat2 K2) (flat T2)) := Lib.hid (hrc.wide (by simp) (Nat.le_refl _))
  have d1_0 : w.heap.size < v1.heap.size := by omega
  have e1_0 : w.heap.size ≠ v1.heap.size := by omega
  have d1_1 : w.heap.size + 1 < v1.heap.size := by omega
  have e1_1 : w.heap.size + 1 ≠ v1.heap.size := by omega
  clear st1 R0 R1 hb1
  obtain ⟨ra, rc, sa, sc, rfl, rfl⟩ := R1_2.out.slice
  clear hrc
  go_wp2_with fail
  go_at_call 14
  refine (ilok_any o s ag lo hi lo hi n m _ _ K T _ HK.out HT.out ((R1_0.out.below (B := v1.heap.size) (by go_grown) (by omega))).fst ((R1_0.out.below (B := v1.heap.size) (by go_grown) (by omega))).snd (by first | omega | (simp; done) | (simp; omega)) (by first | omega | (simp; done) | (simp; omega))).mono ?_
  rw [Hv.out]
  rintro e v2 ⟨rfl, hb2⟩
  have sz2 : v1.heap.size + 1 ≤ v2.heap.size := by have hh := hb2.size; simp at hh; omega
  have st2 : Below v1.heap.size v1 v2 := Below.trans (by go_grown) (hb2.mono (by simp))
  have c2_0 : v2.cell? ⟨w.heap.size, 0, none⟩ = some (.int .i64 o) := by rw [(bcell st2).1 _ _ (by omega)]; exact c1_0
  have c2_1 : v2.cell? ⟨w.heap.size, 1, none⟩ = some (.int .i64 s) := by rw [(bcell st2).1 _ _ (by omega)]; exact c1_1
  have c2_2 : v2.cell? ⟨w.heap.size, 2, none⟩ = some (.int .i64 ag) := by rw [(bcell st2).1 _ _ (by omega)]; exact c1_2
  have c2_3 : v2.cell? ⟨w.heap.size, 3, none⟩ = some (.slice ad n cp) := by rw [(bcell st2).1 _ _ (by omega)]; exact c1_3
  have c2_4 : v2.cell? ⟨w.heap.size, 4, none⟩ = some (.slice ae m cq) := by rw [(bcell st2).1 _ _ (by omega)]; exact c1_4
  have c2_5 : v2.cell? ⟨w.heap.size + 1, 0, none⟩ = some (.int .i64 0) := by rw [(bcell st2).1 _ _ (by omega)]; exact c1_5
  have c2_6 : v2.cell? ⟨w.heap.size + 1, 1, none⟩ = some (.int .i64 0) := by rw [(bcell st2).1 _ _ (by omega)]; exact c1_6
  have c2_7 : v2.cell? ⟨w.heap.size + 1, 2, none⟩ = some (.int .i64 0) := by rw [(bcell st2).1 _ _ (by omega)]; exact c1_7
  have c2_8 : v2.cell? ⟨w.heap.size + 1, 3, none⟩ = some (.slice none 0 0) := by rw [(bcell st2).1 _ _ (by omega)]; exact c1_8
  have c2_9 : v2.cell? ⟨w.heap.size + 1, 4, none⟩ = some (.slice none 0 0) := by rw [(bcell st2).1 _ _ (by omega)]; exact c1_9
  have c2_10 : v2.cell? ⟨v1.heap.size, 0, none⟩ = some (.int .i64 o) := by rw [(bcell hb2).1 _ _ (by simp)]; first | (rw [new_at (by simp)]; rfl) | simp
  have c2_11 : v2.cell? ⟨v1.heap.size, 1, none⟩ = some (.int .i64 (s + 1)) := by rw [(bcell hb2).1 _ _ (by simp)]; first | (rw [new_at (by simp)]; rfl) | simp
  have c2_12 : v2.cell? ⟨v1.heap.size, 2, none⟩ = some (.int .i64 0) := by rw [(bcell hb2).1 _ _ (by simp)]; first | (rw [new_at (by simp)]; rfl) | simp
  have c2_13 : v2.cell? ⟨v1.heap.size, 3, none⟩ = some (.slice ra n1 rc) := by rw [(bcell hb2).1 _ _ (by simp)]; first | (rw [new_at (by simp)]; rfl) | simp
  have c2_14 : v2.cell? ⟨v1.heap.size, 4, none⟩ = some (.slice sa n2 sc) := by rw [(bcell hb2).1 _ _ (by simp)]; first | (rw [new_at (by simp)]; rfl) | simp
  have g2_0 : v2.frozen? ⟨w.heap.size, 0, none⟩ = false := by rw [(bcell st2).2 _ _ (by omega)]; exact g1_0
  have g2_1 : v2.frozen? ⟨w.heap.size, 1, none⟩ = false := by rw [(bcell st2).2 _ _ (by omega)]; exact g1_1
  have g2_2 : v2.frozen? ⟨w.heap.size, 2, none⟩ = false := by rw [(bcell st2).2 _ _ (by omega)]; exact g1_2
  have g2_3 : v2.frozen? ⟨w.heap.size, 3, none⟩ = false := by rw [(bcell st2).2 _ _ (by omega)]; exact g1_3
  have g2_4 : v2.frozen? ⟨w.heap.size, 4, none⟩ = false := by rw [(bcell st2).2 _ _ (by omega)]; exact g1_4
  have g2_5 : v2.frozen? ⟨w.heap.size + 1, 0, none⟩ = false := by rw [(bcell st2).2 _ _ (by omega)]; exact g1_5
  have g2_6 : v2.frozen? ⟨w.heap.size + 1, 1, none⟩ = false := by rw [(bcell st2).2 _ _ (by omega)]; exact g1_6
  have g2_7 : v2.frozen? ⟨w.heap.size + 1, 2, none⟩ = false := by rw [(bcell st2).2 _ _ (by omega)]; exact g1_7
  have g2_8 : v2.frozen? ⟨w.heap.size + 1, 3, none⟩ = false := by rw [(bcell st2).2 _ _ (by omega)]; exact g1_8
  have g2_9 : v2.frozen? ⟨w.heap.size + 1, 4, none⟩ = false := by rw [(bcell st2).2 _ _ (by omega)]; exact g1_9
  have B2 : Hid (Below w.heap.size w v2) := B1.out.trans (st2.mono (by omega))
  have R2_0 : Hid (LRow v2 (lo) (hi) (.slice ad n cp) (.slice ae m cq) n m (flat2 K) (flat T)) := R1_0.out.below st2 (by omega)
  have R2_1 : Hid (LRow v2 (0) (w.heap.size) (.slice bd n1 dp) (.slice be n2 dq) n1 n2 (flat2 K2) (flat T2)) := R1_1.out.below st2 (by omega)
  have R2_2 : Hid (LRow v2 (w.heap.size + 2) (v1.heap.size) (.slice ra n1 rc) (.slice sa n2 sc) n1 n2 (flat2 K2) (flat T2)) := R1_2.out.below st2 (by omega)
  have d2_0 : w.heap.size < v2.heap.size := by omega
  have e2_0 : w.heap.size ≠ v2.heap.size := by omega
  have d2_1 : w.heap.size + 1 < v2.heap.size := by omega
  have e2_1 : w.heap.size + 1 ≠ v2.heap.size := by omega
  have d2_2 : v1.heap.size < v2.heap.size := by omega
  have e2_2 : v1.heap.size ≠ v2.heap.size := by omega
  clear d1_0 e1_0 d1_1 e1_1 c1_0 c1_1 c1_2 c1_3 c1_4 c1_5 c1_6 c1_7 c1_8 c1_9 g1_0 g1_1 g1_2 g1_3 g1_4 g1_5 g1_6 g1_7 g1_8 g1_9 B1 st2 R1_0 R1_1 R1_2 hb2
  go_wp2_with fail
  go_at_call 14
  refine (ilok_any o (s + 1) 0 0 v2.heap.size 0 v2.heap.size n1 n2 _ _ K2 T2 _ HK2.out HT2.out ((R2_2.out).fst.wide (Nat.zero_le _) (by omega)) ((R2_2.out).snd.wide (Nat.zero_le _) (by omega)) (by first | omega | (simp; done) | (simp; omega)) (by first | omega | (simp; done) | (simp; omega))).mono ?_
  rw [Hw.out]
  rintro e v3 ⟨rfl, hb3⟩
  have sz3 : v2.heap.size ≤ v3.heap.size := hb3.size
  have st3 : Below v2.heap.size v2 v3 := hb3
  have c3_0 : v3.cell? ⟨w.heap.size, 0, none⟩ = some (.int .i64 o) := by rw [(bcell st3).1 _ _ (by omega)]; exact c2_0
  have c3_1 : v3.cell? ⟨w.heap.size, 1, none⟩ = some (.int .i64 s) := by rw [(bcell st3).1 _ _ (by omega)]; exact c2_1
  have c3_2 : v3.cell? ⟨w.heap.size, 2, none⟩ = some (.int .i64 ag) := by rw [(bcell st3).1 _ _ (by omega)]; exact c2_2
  have c3_3 : v3.cell? ⟨w.heap.size, 3, none⟩ = some (.slice ad n cp) := by rw [(bcell st3).1 _ _ (by omega)]; exact c2_3
  have c3_4 : v3.cell? ⟨w.heap.size, 4, none⟩ = some (.slice ae m cq) := by rw [(bcell st3).1 _ _ (by omega)]; exact c2_4
  have c3_5 : v3.cell? ⟨w.heap.size + 1, 0, none⟩ = some (.int .i64 0) := by rw [(bcell st3).1 _ _ (by omega)]; exact c2_5
  have c3_6 : v3.cell? ⟨w.heap.size + 1, 1, none⟩ = some (.int .i64 0) := by rw [(bcell st3).1 _ _ (by omega)]; exact c2_6
  have c3_7 : v3.cell? ⟨w.heap.size + 1, 2, none⟩ = some (.int .i64 0) := by rw [(bcell st3).1 _ _ (by omega)]; exact c2_7
  have c3_8 : v3.cell? ⟨w.heap.size + 1, 3, none⟩ = some (.slice none 0 0) := by rw [(bcell st3).1 _ _ (by omega)]; exact c2_8
  have c3_9 : v3.cell? ⟨w.heap.size + 1, 4, none⟩ = some (.slice none 0 0) := by rw [(bcell st3).1 _ _ (by omega)]; exact c2_9
  have c3_10 : v3.cell? ⟨v1.heap.size, 0, none⟩ = some (.int .i64 o) := by rw [(bcell st3).1 _ _ (by omega)]; exact c2_10
  have c3_11 : v3.cell? ⟨v1.heap.size, 1, none⟩ = some (.int .i64 (s + 1)) := by rw [(bcell st3).1 _ _ (by omega)]; exact c2_11
  have c3_12 : v3.cell? ⟨v1.heap.size, 2, none⟩ = some (.int .i64 0) := by rw [(bcell st3).1 _ _ (by omega)]; exact c2_12
  have c3_13 : v3.cell? ⟨v1.heap.size, 3, none⟩ = some (.slice ra n1 rc) := by rw [(bcell st3).1 _ _ (by omega)]; exact c2_13
  have c3_14 : v3.cell? ⟨v1.heap.size, 4, none⟩ = some (.slice sa n2 sc) := by rw [(bcell st3).1 _ _ (by omega)]; exact c2_14
  have g3_0 : v3.frozen? ⟨w.heap.size, 0, none⟩ = false := by rw [(bcell st3).2 _ _ (by omega)]; exact g2_0
  have g3_1 : v3.frozen? ⟨w.heap.size, 1, none⟩ = false := by rw [(bcell st3).2 _ _ (by omega)]; exact g2_1
  have g3_2 : v3.frozen? ⟨w.heap.size, 2, none⟩ = false := by rw [(bcell st3).2 _ _ (by omega)]; exact g2_2
  have g3_3 : v3.frozen? ⟨w.heap.size, 3, none⟩ = false := by rw [(bcell st3).2 _ _ (by omega)]; exact g2_3
  have g3_4 : v3.frozen? ⟨w.heap.size, 4, none⟩ = false := by rw [(bcell st3).2 _ _ (by omega)]; exact g2_4
  have g3_5 : v3.frozen? ⟨w.heap.size + 1, 0, none⟩ = false := by rw [(bcell st3).2 _ _ (by omega)]; exact g2_5
  have g3_6 : v3.frozen? ⟨w.heap.size + 1, 1, none⟩ = false := by rw [(bcell st3).2 _ _ (by omega)]; exact g2_6
  have g3_7 : v3.frozen? ⟨w.heap.size + 1, 2, none⟩ = false := by rw [(bcell st3).2 _ _ (by omega)]; exact g2_7
  have g3_8 : v3.frozen? ⟨w.heap.size + 1, 3, none⟩ = false := by rw [(bcell st3).2 _ _ (by omega)]; exact g2_8
  have g3_9 : v3.frozen? ⟨w.heap.size + 1, 4, none⟩ = false := by rw [(bcell st3).2 _ _ (by omega)]; exact g2_9
  have B3 : Hid (Below w.heap.size w v3) := B2.out.trans (st3.mono (by omega))
  have R3_0 : Hid (LRow v3 (lo) (hi) (.slice ad n cp) (.slice ae m cq) n m (flat2 K) (flat T)) := R2_0.out.below st3 (by omega)
  have R3_1 : Hid (LRow v3 (0) (w.heap.size) (.slice bd n1 dp) (.slice be n2 dq) n1 n2 (flat2 K2) (flat T2)) := R2_1.out.below st3 (by omega)
  have R3_2 : Hid (LRow v3 (w.heap.size + 2) (v1.heap.size) (.slice ra n1 rc) (.slice sa n2 sc) n1 n2 (flat2 K2) (flat T2)) := R2_2.out.below st3 (by omega)
  have d3_0 : w.heap.size < v3.heap.size := by omega
  have e3_0 : w.heap.size ≠ v3.heap.size := by omega
  have d3_1 : w.heap.size + 1 < v3.heap.size := by omega
  have e3_1 : w.heap.size + 1 ≠ v3.heap.size := by omega
  have d3_2 : v1.heap.size < v3.heap.size := by omega
  have e3_2 : v1.heap.size ≠ v3.heap.size := by omega
  clear d2_0 e2_0 d2_1 e2_1 d2_2 e2_2 c2_0 c2_1 c2_2 c2_3 c2_4 c2_5 c2_6 c2_7 c2_8 c2_9 c2_10 c2_11 c2_12 c2_13 c2_14 g2_0 g2_1 g2_2 g2_3 g2_4 g2_5 g2_6 g2_7 g2_8 g2_9 B2 st3 R2_0 R2_1 R2_2 hb3
  go_wp2_with fail
  refine bodyPost_ret (v := .tuple #[.agg #[.int .i64 0, .int .i64 0, .int .i64 0, .slice none 0 0, .slice none 0 0], .bool false]) (by simp [results, Try.results38, go_sem, *]) rfl ⟨_, _, rfl, ⟨w.heap.size, Nat.le_refl _, ?_, ⟨rfl, .inl ⟨rfl, none, 0, rfl⟩⟩, ⟨rfl, .inl ⟨rfl, none, 0, rfl⟩⟩⟩, ?_⟩
  · simp [World.setCell] <;> omega
  · exact ((((B3.out.setCell (by simp <;> omega) _).setCell (by simp <;> omega) _).setCell (by simp <;> omega) _).setCell (by simp <;> omega) _).setCell (by simp <;> omega) _

set_option linter.unusedVariables false in
set_option maxRecDepth 100000 in
set_option maxHeartbeats 4000000 in
theorem inext_2 (o s ag : Int) (lo hi n m lo1 hi1 n1 lo2 hi2 n2 : Nat) (u v v1 v2 : Value) (K : List Lk) (T : List Ed) (K2 : List Lk) (T2 : List Ed) (w : World) (hK : K.length = n) (hT : T.length = m) (hK2 : K2.length = n1) (hT2 : T2.length = n2) (hr : LRow w lo hi u v n m (flat2 K) (flat T)) (hh : hi ≤ w.heap.size) (hr1 : Row 2 w lo1 hi1 v1 n1 (flat2 K2)) (hh1 : hi1 ≤ w.heap.size) (hr2 : Row 3 w lo2 hi2 v2 n2 (flat T2)) (hh2 : hi2 ≤ w.heap.size) (h12 : hi1 ≤ lo2) (hn1 : n1 ≤ 1048576) (hn2 : n2 ≤ 1048576) (hv : lokB o s ag K T = true) (hw : lokB o (s + 1) 0 K2 T2 = true) :
    Calls Try.prog 38 #[.agg #[.int .i64 o, .int .i64 s, .int .i64 ag, u, v], v1, v2] w fun e w' => ∃ ru rv, e = .returned (.tuple #[.agg #[.int .i64 o, .int .i64 (s + 1), .int .i64 0, ru, rv], .bool true]) ∧ LRow w' w.heap.size w'.heap.size ru rv n1 n2 (flat2 K2) (flat T2) ∧ Below w.heap.size w w' := by
  have hbd := lok_bds hv
  obtain ⟨sb0, sb1⟩ := hbd
  have Hv := Lib.hid hv
  have Hw := Lib.hid hw
  clear hv hw
  have HK := Lib.hid hK
  have HT := Lib.hid hT
  have HK2 := Lib.hid hK2
  have HT2 := Lib.hid hT2
  have R0 := Lib.hid hr
  have R1 : Hid (LRow w 0 w.heap.size v1 v2 n1 n2 (flat2 K2) (flat T2)) := Lib.hid ⟨hi1, Nat.zero_le _, hh1, hr1.wide (Nat.zero_le _) (Nat.le_refl _), hr2.wide h12 hh2⟩
  obtain ⟨ad, cp, ae, cq, rfl, rfl⟩ := hr.slice
  obtain ⟨bd, dp, rfl⟩ := hr1.slice
  obtain ⟨be, dq, rfl⟩ := hr2.slice
  clear hr hK hT hr1 hr2 hK2 hT2
  go_enter Try.func38, Try.ntmps38
  go_wp2_with fail
  go_at_call 58
  refine (icopy_any o (s + 1) 0 0 w.heap.size n1 n2 _ _ K2 T2 _ HK2.out HT2.out (R1.out.below (B := w.heap.size) (by go_grown) (by omega)) (by first | omega | (simp; done) | (simp; omega)) hn1 hn2).mono ?_
  rintro e v1 ⟨ru, rv, rfl, hrc, hb1⟩
  have sz1 : w.heap.size + 2 ≤ v1.heap.size := by have hh := hb1.size; simp at hh; omega
  have st1 : Below w.heap.size w v1 := Below.trans (by go_grown) (hb1.mono (by simp <;> omega))
  have c1_0 : v1.cell? ⟨w.heap.size, 0, none⟩ = some (.int .i64 o) := by rw [(bcell hb1).1 _ _ (by simp <;> omega), old_box (by simp <;> omega)]; first | (rw [new_at (by simp)]; rfl) | simp
  have c1_1 : v1.cell? ⟨w.heap.size, 1, none⟩ = some (.int .i64 s) := by rw [(bcell hb1).1 _ _ (by simp <;> omega), old_box (by simp <;> omega)]; first | (rw [new_at (by simp)]; rfl) | simp
  have c1_2 : v1.cell? ⟨w.heap.size, 2, none⟩ = some (.int .i64 ag) := by rw [(bcell hb1).1 _ _ (by simp <;> omega), old_box (by simp <;> omega)]; first | (rw [new_at (by simp)]; rfl) | simp
  have c1_3 : v1.cell? ⟨w.heap.size, 3, none⟩ = some (.slice ad n cp) := by rw [(bcell hb1).1 _ _ (by simp <;> omega), old_box (by simp <;> omega)]; first | (rw [new_at (by simp)]; rfl) | simp
  have c1_4 : v1.cell? ⟨w.heap.size, 4, none⟩ = some (.slice ae m cq) := by rw [(bcell hb1).1 _ _ (by simp <;> omega), old_box (by simp <;> omega)]; first | (rw [new_at (by simp)]; rfl) | simp
  have c1_5 : v1.cell? ⟨w.heap.size + 1, 0, none⟩ = some (.int .i64 0) := by rw [(bcell hb1).1 _ _ (by simp)]; first | (rw [new_at (by simp)]; rfl) | simp
  have c1_6 : v1.cell? ⟨w.heap.size + 1, 1, none⟩ = some (.int .i64 0) := by rw [(bcell hb1).1 _ _ (by simp)]; first | (rw [new_at (by simp)]; rfl) | simp
  have c1_7 : v1.cell? ⟨w.heap.size + 1, 2, none⟩ = some (.int .i64 0) := by rw [(bcell hb1).1 _ _ (by simp)]; first | (rw [new_at (by simp)]; rfl) | simp
  have c1_8 : v1.cell? ⟨w.heap.size + 1, 3, none⟩ = some (.slice none 0 0) := by rw [(bcell hb1).1 _ _ (by simp)]; first | (rw [new_at (by simp)]; rfl) | simp
  have c1_9 : v1.cell? ⟨w.heap.size + 1, 4, none⟩ = some (.slice none 0 0) := by rw [(bcell hb1).1 _ _ (by simp)]; first | (rw [new_at (by simp)]; rfl) | simp
  have g1_0 : v1.frozen? ⟨w.heap.size, 0, none⟩ = false := by rw [(bcell hb1).2 _ _ (by simp <;> omega), old_frz (by simp <;> omega), new_frz (by simp)]
  have g1_1 : v1.frozen? ⟨w.heap.size, 1, none⟩ = false := by rw [(bcell hb1).2 _ _ (by simp <;> omega), old_frz (by simp <;> omega), new_frz (by simp)]
  have g1_2 : v1.frozen? ⟨w.heap.size, 2, none⟩ = false := by rw [(bcell hb1).2 _ _ (by simp <;> omega), old_frz (by simp <;> omega), new_frz (by simp)]
  have g1_3 : v1.frozen? ⟨w.heap.size, 3, none⟩ = false := by rw [(bcell hb1).2 _ _ (by simp <;> omega), old_frz (by simp <;> omega), new_frz (by simp)]
  have g1_4 : v1.frozen? ⟨w.heap.size, 4, none⟩ = false := by rw [(bcell hb1).2 _ _ (by simp <;> omega), old_frz (by simp <;> omega), new_frz (by simp)]
  have g1_5 : v1.frozen? ⟨w.heap.size + 1, 0, none⟩ = false := by rw [(bcell hb1).2 _ _ (by simp), new_frz (by simp)]
  have g1_6 : v1.frozen? ⟨w.heap.size + 1, 1, none⟩ = false := by rw [(bcell hb1).2 _ _ (by simp), new_frz (by simp)]
  have g1_7 : v1.frozen? ⟨w.heap.size + 1, 2, none⟩ = false := by rw [(bcell hb1).2 _ _ (by simp), new_frz (by simp)]
  have g1_8 : v1.frozen? ⟨w.heap.size + 1, 3, none⟩ = false := by rw [(bcell hb1).2 _ _ (by simp), new_frz (by simp)]
  have g1_9 : v1.frozen? ⟨w.heap.size + 1, 4, none⟩ = false := by rw [(bcell hb1).2 _ _ (by simp), new_frz (by simp)]
  have B1 : Hid (Below w.heap.size w v1) := st1
  have R1_0 : Hid (LRow v1 (lo) (hi) (.slice ad n cp) (.slice ae m cq) n m (flat2 K) (flat T)) := R0.out.below st1 (by omega)
  have R1_1 : Hid (LRow v1 (0) (w.heap.size) (.slice bd n1 dp) (.slice be n2 dq) n1 n2 (flat2 K2) (flat T2)) := R1.out.below st1 (by omega)
  have R1_2 : Hid (LRow v1 (w.heap.size + 2) (v1.heap.size) ru rv n1 n2 (flat2 K2) (flat T2)) := Lib.hid (hrc.wide (by simp) (Nat.le_refl _))
  have d1_0 : w.heap.size < v1.heap.size := by omega
  have e1_0 : w.heap.size ≠ v1.heap.size := by omega
  have d1_1 : w.heap.size + 1 < v1.heap.size := by omega
  have e1_1 : w.heap.size + 1 ≠ v1.heap.size := by omega
  clear st1 R0 R1 hb1
  obtain ⟨ra, rc, sa, sc, rfl, rfl⟩ := R1_2.out.slice
  clear hrc
  go_wp2_with fail
  go_at_call 14
  refine (ilok_any o s ag lo hi lo hi n m _ _ K T _ HK.out HT.out ((R1_0.out.below (B := v1.heap.size) (by go_grown) (by omega))).fst ((R1_0.out.below (B := v1.heap.size) (by go_grown) (by omega))).snd (by first | omega | (simp; done) | (simp; omega)) (by first | omega | (simp; done) | (simp; omega))).mono ?_
  rw [Hv.out]
  rintro e v2 ⟨rfl, hb2⟩
  have sz2 : v1.heap.size + 1 ≤ v2.heap.size := by have hh := hb2.size; simp at hh; omega
  have st2 : Below v1.heap.size v1 v2 := Below.trans (by go_grown) (hb2.mono (by simp))
  have c2_0 : v2.cell? ⟨w.heap.size, 0, none⟩ = some (.int .i64 o) := by rw [(bcell st2).1 _ _ (by omega)]; exact c1_0
  have c2_1 : v2.cell? ⟨w.heap.size, 1, none⟩ = some (.int .i64 s) := by rw [(bcell st2).1 _ _ (by omega)]; exact c1_1
  have c2_2 : v2.cell? ⟨w.heap.size, 2, none⟩ = some (.int .i64 ag) := by rw [(bcell st2).1 _ _ (by omega)]; exact c1_2
  have c2_3 : v2.cell? ⟨w.heap.size, 3, none⟩ = some (.slice ad n cp) := by rw [(bcell st2).1 _ _ (by omega)]; exact c1_3
  have c2_4 : v2.cell? ⟨w.heap.size, 4, none⟩ = some (.slice ae m cq) := by rw [(bcell st2).1 _ _ (by omega)]; exact c1_4
  have c2_5 : v2.cell? ⟨w.heap.size + 1, 0, none⟩ = some (.int .i64 0) := by rw [(bcell st2).1 _ _ (by omega)]; exact c1_5
  have c2_6 : v2.cell? ⟨w.heap.size + 1, 1, none⟩ = some (.int .i64 0) := by rw [(bcell st2).1 _ _ (by omega)]; exact c1_6
  have c2_7 : v2.cell? ⟨w.heap.size + 1, 2, none⟩ = some (.int .i64 0) := by rw [(bcell st2).1 _ _ (by omega)]; exact c1_7
  have c2_8 : v2.cell? ⟨w.heap.size + 1, 3, none⟩ = some (.slice none 0 0) := by rw [(bcell st2).1 _ _ (by omega)]; exact c1_8
  have c2_9 : v2.cell? ⟨w.heap.size + 1, 4, none⟩ = some (.slice none 0 0) := by rw [(bcell st2).1 _ _ (by omega)]; exact c1_9
  have c2_10 : v2.cell? ⟨v1.heap.size, 0, none⟩ = some (.int .i64 o) := by rw [(bcell hb2).1 _ _ (by simp)]; first | (rw [new_at (by simp)]; rfl) | simp
  have c2_11 : v2.cell? ⟨v1.heap.size, 1, none⟩ = some (.int .i64 (s + 1)) := by rw [(bcell hb2).1 _ _ (by simp)]; first | (rw [new_at (by simp)]; rfl) | simp
  have c2_12 : v2.cell? ⟨v1.heap.size, 2, none⟩ = some (.int .i64 0) := by rw [(bcell hb2).1 _ _ (by simp)]; first | (rw [new_at (by simp)]; rfl) | simp
  have c2_13 : v2.cell? ⟨v1.heap.size, 3, none⟩ = some (.slice ra n1 rc) := by rw [(bcell hb2).1 _ _ (by simp)]; first | (rw [new_at (by simp)]; rfl) | simp
  have c2_14 : v2.cell? ⟨v1.heap.size, 4, none⟩ = some (.slice sa n2 sc) := by rw [(bcell hb2).1 _ _ (by simp)]; first | (rw [new_at (by simp)]; rfl) | simp
  have g2_0 : v2.frozen? ⟨w.heap.size, 0, none⟩ = false := by rw [(bcell st2).2 _ _ (by omega)]; exact g1_0
  have g2_1 : v2.frozen? ⟨w.heap.size, 1, none⟩ = false := by rw [(bcell st2).2 _ _ (by omega)]; exact g1_1
  have g2_2 : v2.frozen? ⟨w.heap.size, 2, none⟩ = false := by rw [(bcell st2).2 _ _ (by omega)]; exact g1_2
  have g2_3 : v2.frozen? ⟨w.heap.size, 3, none⟩ = false := by rw [(bcell st2).2 _ _ (by omega)]; exact g1_3
  have g2_4 : v2.frozen? ⟨w.heap.size, 4, none⟩ = false := by rw [(bcell st2).2 _ _ (by omega)]; exact g1_4
  have g2_5 : v2.frozen? ⟨w.heap.size + 1, 0, none⟩ = false := by rw [(bcell st2).2 _ _ (by omega)]; exact g1_5
  have g2_6 : v2.frozen? ⟨w.heap.size + 1, 1, none⟩ = false := by rw [(bcell st2).2 _ _ (by omega)]; exact g1_6
  have g2_7 : v2.frozen? ⟨w.heap.size + 1, 2, none⟩ = false := by rw [(bcell st2).2 _ _ (by omega)]; exact g1_7
  have g2_8 : v2.frozen? ⟨w.heap.size + 1, 3, none⟩ = false := by rw [(bcell st2).2 _ _ (by omega)]; exact g1_8
  have g2_9 : v2.frozen? ⟨w.heap.size + 1, 4, none⟩ = false := by rw [(bcell st2).2 _ _ (by omega)]; exact g1_9
  have B2 : Hid (Below w.heap.size w v2) := B1.out.trans (st2.mono (by omega))
  have R2_0 : Hid (LRow v2 (lo) (hi) (.slice ad n cp) (.slice ae m cq) n m (flat2 K) (flat T)) := R1_0.out.below st2 (by omega)
  have R2_1 : Hid (LRow v2 (0) (w.heap.size) (.slice bd n1 dp) (.slice be n2 dq) n1 n2 (flat2 K2) (flat T2)) := R1_1.out.below st2 (by omega)
  have R2_2 : Hid (LRow v2 (w.heap.size + 2) (v1.heap.size) (.slice ra n1 rc) (.slice sa n2 sc) n1 n2 (flat2 K2) (flat T2)) := R1_2.out.below st2 (by omega)
  have d2_0 : w.heap.size < v2.heap.size := by omega
  have e2_0 : w.heap.size ≠ v2.heap.size := by omega
  have d2_1 : w.heap.size + 1 < v2.heap.size := by omega
  have e2_1 : w.heap.size + 1 ≠ v2.heap.size := by omega
  have d2_2 : v1.heap.size < v2.heap.size := by omega
  have e2_2 : v1.heap.size ≠ v2.heap.size := by omega
  clear d1_0 e1_0 d1_1 e1_1 c1_0 c1_1 c1_2 c1_3 c1_4 c1_5 c1_6 c1_7 c1_8 c1_9 g1_0 g1_1 g1_2 g1_3 g1_4 g1_5 g1_6 g1_7 g1_8 g1_9 B1 st2 R1_0 R1_1 R1_2 hb2
  go_wp2_with fail
  go_at_call 14
  refine (ilok_any o (s + 1) 0 0 v2.heap.size 0 v2.heap.size n1 n2 _ _ K2 T2 _ HK2.out HT2.out ((R2_2.out).fst.wide (Nat.zero_le _) (by omega)) ((R2_2.out).snd.wide (Nat.zero_le _) (by omega)) (by first | omega | (simp; done) | (simp; omega)) (by first | omega | (simp; done) | (simp; omega))).mono ?_
  rw [Hw.out]
  rintro e v3 ⟨rfl, hb3⟩
  have sz3 : v2.heap.size ≤ v3.heap.size := hb3.size
  have st3 : Below v2.heap.size v2 v3 := hb3
  have c3_0 : v3.cell? ⟨w.heap.size, 0, none⟩ = some (.int .i64 o) := by rw [(bcell st3).1 _ _ (by omega)]; exact c2_0
  have c3_1 : v3.cell? ⟨w.heap.size, 1, none⟩ = some (.int .i64 s) := by rw [(bcell st3).1 _ _ (by omega)]; exact c2_1
  have c3_2 : v3.cell? ⟨w.heap.size, 2, none⟩ = some (.int .i64 ag) := by rw [(bcell st3).1 _ _ (by omega)]; exact c2_2
  have c3_3 : v3.cell? ⟨w.heap.size, 3, none⟩ = some (.slice ad n cp) := by rw [(bcell st3).1 _ _ (by omega)]; exact c2_3
  have c3_4 : v3.cell? ⟨w.heap.size, 4, none⟩ = some (.slice ae m cq) := by rw [(bcell st3).1 _ _ (by omega)]; exact c2_4
  have c3_5 : v3.cell? ⟨w.heap.size + 1, 0, none⟩ = some (.int .i64 0) := by rw [(bcell st3).1 _ _ (by omega)]; exact c2_5
  have c3_6 : v3.cell? ⟨w.heap.size + 1, 1, none⟩ = some (.int .i64 0) := by rw [(bcell st3).1 _ _ (by omega)]; exact c2_6
  have c3_7 : v3.cell? ⟨w.heap.size + 1, 2, none⟩ = some (.int .i64 0) := by rw [(bcell st3).1 _ _ (by omega)]; exact c2_7
  have c3_8 : v3.cell? ⟨w.heap.size + 1, 3, none⟩ = some (.slice none 0 0) := by rw [(bcell st3).1 _ _ (by omega)]; exact c2_8
  have c3_9 : v3.cell? ⟨w.heap.size + 1, 4, none⟩ = some (.slice none 0 0) := by rw [(bcell st3).1 _ _ (by omega)]; exact c2_9
  have c3_10 : v3.cell? ⟨v1.heap.size, 0, none⟩ = some (.int .i64 o) := by rw [(bcell st3).1 _ _ (by omega)]; exact c2_10
  have c3_11 : v3.cell? ⟨v1.heap.size, 1, none⟩ = some (.int .i64 (s + 1)) := by rw [(bcell st3).1 _ _ (by omega)]; exact c2_11
  have c3_12 : v3.cell? ⟨v1.heap.size, 2, none⟩ = some (.int .i64 0) := by rw [(bcell st3).1 _ _ (by omega)]; exact c2_12
  have c3_13 : v3.cell? ⟨v1.heap.size, 3, none⟩ = some (.slice ra n1 rc) := by rw [(bcell st3).1 _ _ (by omega)]; exact c2_13
  have c3_14 : v3.cell? ⟨v1.heap.size, 4, none⟩ = some (.slice sa n2 sc) := by rw [(bcell st3).1 _ _ (by omega)]; exact c2_14
  have g3_0 : v3.frozen? ⟨w.heap.size, 0, none⟩ = false := by rw [(bcell st3).2 _ _ (by omega)]; exact g2_0
  have g3_1 : v3.frozen? ⟨w.heap.size, 1, none⟩ = false := by rw [(bcell st3).2 _ _ (by omega)]; exact g2_1
  have g3_2 : v3.frozen? ⟨w.heap.size, 2, none⟩ = false := by rw [(bcell st3).2 _ _ (by omega)]; exact g2_2
  have g3_3 : v3.frozen? ⟨w.heap.size, 3, none⟩ = false := by rw [(bcell st3).2 _ _ (by omega)]; exact g2_3
  have g3_4 : v3.frozen? ⟨w.heap.size, 4, none⟩ = false := by rw [(bcell st3).2 _ _ (by omega)]; exact g2_4
  have g3_5 : v3.frozen? ⟨w.heap.size + 1, 0, none⟩ = false := by rw [(bcell st3).2 _ _ (by omega)]; exact g2_5
  have g3_6 : v3.frozen? ⟨w.heap.size + 1, 1, none⟩ = false := by rw [(bcell st3).2 _ _ (by omega)]; exact g2_6
  have g3_7 : v3.frozen? ⟨w.heap.size + 1, 2, none⟩ = false := by rw [(bcell st3).2 _ _ (by omega)]; exact g2_7
  have g3_8 : v3.frozen? ⟨w.heap.size + 1, 3, none⟩ = false := by rw [(bcell st3).2 _ _ (by omega)]; exact g2_8
  have g3_9 : v3.frozen? ⟨w.heap.size + 1, 4, none⟩ = false := by rw [(bcell st3).2 _ _ (by omega)]; exact g2_9
  have B3 : Hid (Below w.heap.size w v3) := B2.out.trans (st3.mono (by omega))
  have R3_0 : Hid (LRow v3 (lo) (hi) (.slice ad n cp) (.slice ae m cq) n m (flat2 K) (flat T)) := R2_0.out.below st3 (by omega)
  have R3_1 : Hid (LRow v3 (0) (w.heap.size) (.slice bd n1 dp) (.slice be n2 dq) n1 n2 (flat2 K2) (flat T2)) := R2_1.out.below st3 (by omega)
  have R3_2 : Hid (LRow v3 (w.heap.size + 2) (v1.heap.size) (.slice ra n1 rc) (.slice sa n2 sc) n1 n2 (flat2 K2) (flat T2)) := R2_2.out.below st3 (by omega)
  have d3_0 : w.heap.size < v3.heap.size := by omega
  have e3_0 : w.heap.size ≠ v3.heap.size := by omega
  have d3_1 : w.heap.size + 1 < v3.heap.size := by omega
  have e3_1 : w.heap.size + 1 ≠ v3.heap.size := by omega
  have d3_2 : v1.heap.size < v3.heap.size := by omega
  have e3_2 : v1.heap.size ≠ v3.heap.size := by omega
  clear d2_0 e2_0 d2_1 e2_1 d2_2 e2_2 c2_0 c2_1 c2_2 c2_3 c2_4 c2_5 c2_6 c2_7 c2_8 c2_9 c2_10 c2_11 c2_12 c2_13 c2_14 g2_0 g2_1 g2_2 g2_3 g2_4 g2_5 g2_6 g2_7 g2_8 g2_9 B2 st3 R2_0 R2_1 R2_2 hb3
  go_wp2_with fail
  refine bodyPost_ret (v := .tuple #[.agg #[.int .i64 o, .int .i64 (s + 1), .int .i64 0, .slice ra n1 rc, .slice sa n2 sc], .bool true]) (by simp [results, Try.results38, go_sem, *]) rfl ⟨_, _, rfl, ?_, ?_⟩
  · exact ((((((R3_2.out.setCell (.inl (by simp <;> omega)) _).setCell (.inl (by simp <;> omega)) _).setCell (.inl (by simp <;> omega)) _).setCell (.inl (by simp <;> omega)) _).setCell (.inl (by simp <;> omega)) _).wide (by omega) (by simp [World.setCell] <;> omega))
  · exact ((((B3.out.setCell (by simp <;> omega) _).setCell (by simp <;> omega) _).setCell (by simp <;> omega) _).setCell (by simp <;> omega) _).setCell (by simp <;> omega) _

theorem inext_no (o s ag : Int) (lo hi n m lo1 hi1 n1 lo2 hi2 n2 : Nat) (u v v1 v2 : Value) (K : List Lk) (T : List Ed) (K2 : List Lk) (T2 : List Ed) (w : World) (hK : K.length = n) (hT : T.length = m) (hK2 : K2.length = n1) (hT2 : T2.length = n2) (hr : LRow w lo hi u v n m (flat2 K) (flat T)) (hh : hi ≤ w.heap.size) (hr1 : Row 2 w lo1 hi1 v1 n1 (flat2 K2)) (hh1 : hi1 ≤ w.heap.size) (hr2 : Row 3 w lo2 hi2 v2 n2 (flat T2)) (hh2 : hi2 ≤ w.heap.size) (h12 : hi1 ≤ lo2) (hn1 : n1 ≤ 1048576) (hn2 : n2 ≤ 1048576) (hb : (lokB o s ag K T && lokB o (s + 1) 0 K2 T2) = false) :
    Calls Try.prog 38 #[.agg #[.int .i64 o, .int .i64 s, .int .i64 ag, u, v], v1, v2] w fun e w' => ∃ ru rv, e = .returned (.tuple #[.agg #[.int .i64 0, .int .i64 0, .int .i64 0, ru, rv], .bool false]) ∧ LRow w' w.heap.size w'.heap.size ru rv 0 0 [] [] ∧ Below w.heap.size w w' := by
  cases hv : lokB o s ag K T
  · exact inext_0 o s ag lo hi n m lo1 hi1 n1 lo2 hi2 n2 u v v1 v2 K T K2 T2 w hK hT hK2 hT2 hr hh hr1 hh1 hr2 hh2 h12 hn1 hn2 hv
  · rw [hv, Bool.true_and] at hb
    exact inext_1 o s ag lo hi n m lo1 hi1 n1 lo2 hi2 n2 u v v1 v2 K T K2 T2 w hK hT hK2 hT2 hr hh hr1 hh1 hr2 hh2 h12 hn1 hn2 hv hb
theorem inext_yes (o s ag : Int) (lo hi n m lo1 hi1 n1 lo2 hi2 n2 : Nat) (u v v1 v2 : Value) (K : List Lk) (T : List Ed) (K2 : List Lk) (T2 : List Ed) (w : World) (hK : K.length = n) (hT : T.length = m) (hK2 : K2.length = n1) (hT2 : T2.length = n2) (hr : LRow w lo hi u v n m (flat2 K) (flat T)) (hh : hi ≤ w.heap.size) (hr1 : Row 2 w lo1 hi1 v1 n1 (flat2 K2)) (hh1 : hi1 ≤ w.heap.size) (hr2 : Row 3 w lo2 hi2 v2 n2 (flat T2)) (hh2 : hi2 ≤ w.heap.size) (h12 : hi1 ≤ lo2) (hn1 : n1 ≤ 1048576) (hn2 : n2 ≤ 1048576) (hb : (lokB o s ag K T && lokB o (s + 1) 0 K2 T2) = true) :
    Calls Try.prog 38 #[.agg #[.int .i64 o, .int .i64 s, .int .i64 ag, u, v], v1, v2] w fun e w' => ∃ ru rv, e = .returned (.tuple #[.agg #[.int .i64 o, .int .i64 (s + 1), .int .i64 0, ru, rv], .bool true]) ∧ LRow w' w.heap.size w'.heap.size ru rv n1 n2 (flat2 K2) (flat T2) ∧ Below w.heap.size w w' := by
  rw [Bool.and_eq_true] at hb
  exact inext_2 o s ag lo hi n m lo1 hi1 n1 lo2 hi2 n2 u v v1 v2 K T K2 T2 w hK hT hK2 hT2 hr hh hr1 hh1 hr2 hh2 h12 hn1 hn2 hb.1 hb.2

set_option linter.unusedVariables false in
set_option maxRecDepth 100000 in
set_option maxHeartbeats 4000000 in
theorem snext_0 (o s ag : Int) (lo hi n m lo1 hi1 n1 lo2 hi2 n2 : Nat) (u v v1 v2 : Value) (K : List Lk) (T : List Ed) (K2 : List Lk) (T2 : List Ed) (w : World) (hK : K.length = n) (hT : T.length = m) (hK2 : K2.length = n1) (hT2 : T2.length = n2) (hr : LRow w lo hi u v n m (flat2 K) (flat T)) (hh : hi ≤ w.heap.size) (hr1 : Row 2 w lo1 hi1 v1 n1 (flat2 K2)) (hh1 : hi1 ≤ w.heap.size) (hr2 : Row 3 w lo2 hi2 v2 n2 (flat T2)) (hh2 : hi2 ≤ w.heap.size) (h12 : hi1 ≤ lo2) (hn1 : n1 ≤ 1048576) (hn2 : n2 ≤ 1048576) (hv : lokB o s ag K T = false) :
    Calls Try.prog 35 #[.agg #[.int .i64 o, .int .i64 s, .int .i64 ag, u, v], v1, v2] w fun e w' => ∃ ru rv, e = .returned (.tuple #[.agg #[.int .i64 0, .int .i64 0, .int .i64 0, ru, rv], .bool false]) ∧ LRow w' w.heap.size w'.heap.size ru rv 0 0 [] [] ∧ Below w.heap.size w w' := by
  have Hv := Lib.hid hv
  clear hv
  have HK := Lib.hid hK
  have HT := Lib.hid hT
  have HK2 := Lib.hid hK2
  have HT2 := Lib.hid hT2
  have R0 := Lib.hid hr
  have R1 : Hid (LRow w 0 w.heap.size v1 v2 n1 n2 (flat2 K2) (flat T2)) := Lib.hid ⟨hi1, Nat.zero_le _, hh1, hr1.wide (Nat.zero_le _) (Nat.le_refl _), hr2.wide h12 hh2⟩
  obtain ⟨ad, cp, ae, cq, rfl, rfl⟩ := hr.slice
  obtain ⟨bd, dp, rfl⟩ := hr1.slice
  obtain ⟨be, dq, rfl⟩ := hr2.slice
  clear hr hK hT hr1 hr2 hK2 hT2
  go_enter Try.func35, Try.ntmps35
  go_wp2_with fail
  go_at_call 12
  refine (slok_any o s ag lo hi lo hi n m _ _ K T _ HK.out HT.out ((R0.out.below (B := w.heap.size) (by go_grown) (by omega))).fst ((R0.out.below (B := w.heap.size) (by go_grown) (by omega))).snd (by first | omega | (simp; done) | (simp; omega)) (by first | omega | (simp; done) | (simp; omega))).mono ?_
  rw [Hv.out]
  rintro e v1 ⟨rfl, hb1⟩
  have sz1 : w.heap.size + 2 ≤ v1.heap.size := by have hh := hb1.size; simp at hh; omega
  have st1 : Below w.heap.size w v1 := Below.trans (by go_grown) (hb1.mono (by simp <;> omega))
  have c1_0 : v1.cell? ⟨w.heap.size, 0, none⟩ = some (.int .i64 o) := by rw [(bcell hb1).1 _ _ (by simp <;> omega), old_box (by simp <;> omega)]; first | (rw [new_at (by simp)]; rfl) | simp
  have c1_1 : v1.cell? ⟨w.heap.size, 1, none⟩ = some (.int .i64 s) := by rw [(bcell hb1).1 _ _ (by simp <;> omega), old_box (by simp <;> omega)]; first | (rw [new_at (by simp)]; rfl) | simp
  have c1_2 : v1.cell? ⟨w.heap.size, 2, none⟩ = some (.int .i64 ag) := by rw [(bcell hb1).1 _ _ (by simp <;> omega), old_box (by simp <;> omega)]; first | (rw [new_at (by simp)]; rfl) | simp
  have c1_3 : v1.cell? ⟨w.heap.size, 3, none⟩ = some (.slice ad n cp) := by rw [(bcell hb1).1 _ _ (by simp <;> omega), old_box (by simp <;> omega)]; first | (rw [new_at (by simp)]; rfl) | simp
  have c1_4 : v1.cell? ⟨w.heap.size, 4, none⟩ = some (.slice ae m cq) := by rw [(bcell hb1).1 _ _ (by simp <;> omega), old_box (by simp <;> omega)]; first | (rw [new_at (by simp)]; rfl) | simp
  have c1_5 : v1.cell? ⟨w.heap.size + 1, 0, none⟩ = some (.int .i64 0) := by rw [(bcell hb1).1 _ _ (by simp)]; first | (rw [new_at (by simp)]; rfl) | simp
  have c1_6 : v1.cell? ⟨w.heap.size + 1, 1, none⟩ = some (.int .i64 0) := by rw [(bcell hb1).1 _ _ (by simp)]; first | (rw [new_at (by simp)]; rfl) | simp
  have c1_7 : v1.cell? ⟨w.heap.size + 1, 2, none⟩ = some (.int .i64 0) := by rw [(bcell hb1).1 _ _ (by simp)]; first | (rw [new_at (by simp)]; rfl) | simp
  have c1_8 : v1.cell? ⟨w.heap.size + 1, 3, none⟩ = some (.slice none 0 0) := by rw [(bcell hb1).1 _ _ (by simp)]; first | (rw [new_at (by simp)]; rfl) | simp
  have c1_9 : v1.cell? ⟨w.heap.size + 1, 4, none⟩ = some (.slice none 0 0) := by rw [(bcell hb1).1 _ _ (by simp)]; first | (rw [new_at (by simp)]; rfl) | simp
  have g1_0 : v1.frozen? ⟨w.heap.size, 0, none⟩ = false := by rw [(bcell hb1).2 _ _ (by simp <;> omega), old_frz (by simp <;> omega), new_frz (by simp)]
  have g1_1 : v1.frozen? ⟨w.heap.size, 1, none⟩ = false := by rw [(bcell hb1).2 _ _ (by simp <;> omega), old_frz (by simp <;> omega), new_frz (by simp)]
  have g1_2 : v1.frozen? ⟨w.heap.size, 2, none⟩ = false := by rw [(bcell hb1).2 _ _ (by simp <;> omega), old_frz (by simp <;> omega), new_frz (by simp)]
  have g1_3 : v1.frozen? ⟨w.heap.size, 3, none⟩ = false := by rw [(bcell hb1).2 _ _ (by simp <;> omega), old_frz (by simp <;> omega), new_frz (by simp)]
  have g1_4 : v1.frozen? ⟨w.heap.size, 4, none⟩ = false := by rw [(bcell hb1).2 _ _ (by simp <;> omega), old_frz (by simp <;> omega), new_frz (by simp)]
  have g1_5 : v1.frozen? ⟨w.heap.size + 1, 0, none⟩ = false := by rw [(bcell hb1).2 _ _ (by simp), new_frz (by simp)]
  have g1_6 : v1.frozen? ⟨w.heap.size + 1, 1, none⟩ = false := by rw [(bcell hb1).2 _ _ (by simp), new_frz (by simp)]
  have g1_7 : v1.frozen? ⟨w.heap.size + 1, 2, none⟩ = false := by rw [(bcell hb1).2 _ _ (by simp), new_frz (by simp)]
  have g1_8 : v1.frozen? ⟨w.heap.size + 1, 3, none⟩ = false := by rw [(bcell hb1).2 _ _ (by simp), new_frz (by simp)]
  have g1_9 : v1.frozen? ⟨w.heap.size + 1, 4, none⟩ = false := by rw [(bcell hb1).2 _ _ (by simp), new_frz (by simp)]
  have B1 : Hid (Below w.heap.size w v1) := st1
  have R1_0 : Hid (LRow v1 (lo) (hi) (.slice ad n cp) (.slice ae m cq) n m (flat2 K) (flat T)) := R0.out.below st1 (by omega)
  have R1_1 : Hid (LRow v1 (0) (w.heap.size) (.slice bd n1 dp) (.slice be n2 dq) n1 n2 (flat2 K2) (flat T2)) := R1.out.below st1 (by omega)
  have d1_0 : w.heap.size < v1.heap.size := by omega
  have e1_0 : w.heap.size ≠ v1.heap.size := by omega
  have d1_1 : w.heap.size + 1 < v1.heap.size := by omega
  have e1_1 : w.heap.size + 1 ≠ v1.heap.size := by omega
  clear st1 R0 R1 hb1
  go_wp2_with fail
  refine bodyPost_ret (v := .tuple #[.agg #[.int .i64 0, .int .i64 0, .int .i64 0, .slice none 0 0, .slice none 0 0], .bool false]) (by simp [results, Try.results35, go_sem, *]) rfl ⟨_, _, rfl, ⟨w.heap.size, Nat.le_refl _, ?_, ⟨rfl, .inl ⟨rfl, none, 0, rfl⟩⟩, ⟨rfl, .inl ⟨rfl, none, 0, rfl⟩⟩⟩, ?_⟩
  · simp [World.setCell] <;> omega
  · exact ((((B1.out.setCell (by simp <;> omega) _).setCell (by simp <;> omega) _).setCell (by simp <;> omega) _).setCell (by simp <;> omega) _).setCell (by simp <;> omega) _

set_option linter.unusedVariables false in
set_option maxRecDepth 100000 in
set_option maxHeartbeats 4000000 in
theorem snext_1 (o s ag : Int) (lo hi n m lo1 hi1 n1 lo2 hi2 n2 : Nat) (u v v1 v2 : Value) (K : List Lk) (T : List Ed) (K2 : List Lk) (T2 : List Ed) (w : World) (hK : K.length = n) (hT : T.length = m) (hK2 : K2.length = n1) (hT2 : T2.length = n2) (hr : LRow w lo hi u v n m (flat2 K) (flat T)) (hh : hi ≤ w.heap.size) (hr1 : Row 2 w lo1 hi1 v1 n1 (flat2 K2)) (hh1 : hi1 ≤ w.heap.size) (hr2 : Row 3 w lo2 hi2 v2 n2 (flat T2)) (hh2 : hi2 ≤ w.heap.size) (h12 : hi1 ≤ lo2) (hn1 : n1 ≤ 1048576) (hn2 : n2 ≤ 1048576) (hv : lokB o s ag K T = true) (hw : lokB o (s + 1) 0 K2 T2 = false) :
    Calls Try.prog 35 #[.agg #[.int .i64 o, .int .i64 s, .int .i64 ag, u, v], v1, v2] w fun e w' => ∃ ru rv, e = .returned (.tuple #[.agg #[.int .i64 0, .int .i64 0, .int .i64 0, ru, rv], .bool false]) ∧ LRow w' w.heap.size w'.heap.size ru rv 0 0 [] [] ∧ Below w.heap.size w w' := by
  have hbd := lok_bds hv
  obtain ⟨sb0, sb1⟩ := hbd
  have Hv := Lib.hid hv
  have Hw := Lib.hid hw
  clear hv hw
  have HK := Lib.hid hK
  have HT := Lib.hid hT
  have HK2 := Lib.hid hK2
  have HT2 := Lib.hid hT2
  have R0 := Lib.hid hr
  have R1 : Hid (LRow w 0 w.heap.size v1 v2 n1 n2 (flat2 K2) (flat T2)) := Lib.hid ⟨hi1, Nat.zero_le _, hh1, hr1.wide (Nat.zero_le _) (Nat.le_refl _), hr2.wide h12 hh2⟩
  obtain ⟨ad, cp, ae, cq, rfl, rfl⟩ := hr.slice
  obtain ⟨bd, dp, rfl⟩ := hr1.slice
  obtain ⟨be, dq, rfl⟩ := hr2.slice
  clear hr hK hT hr1 hr2 hK2 hT2
  go_enter Try.func35, Try.ntmps35
  go_wp2_with fail
  go_at_call 12
  refine (slok_any o s ag lo hi lo hi n m _ _ K T _ HK.out HT.out ((R0.out.below (B := w.heap.size) (by go_grown) (by omega))).fst ((R0.out.below (B := w.heap.size) (by go_grown) (by omega))).snd (by first | omega | (simp; done) | (simp; omega)) (by first | omega | (simp; done) | (simp; omega))).mono ?_
  rw [Hv.out]
  rintro e v1 ⟨rfl, hb1⟩
  have sz1 : w.heap.size + 2 ≤ v1.heap.size := by have hh := hb1.size; simp at hh; omega
  have st1 : Below w.heap.size w v1 := Below.trans (by go_grown) (hb1.mono (by simp <;> omega))
  have c1_0 : v1.cell? ⟨w.heap.size, 0, none⟩ = some (.int .i64 o) := by rw [(bcell hb1).1 _ _ (by simp <;> omega), old_box (by simp <;> omega)]; first | (rw [new_at (by simp)]; rfl) | simp
  have c1_1 : v1.cell? ⟨w.heap.size, 1, none⟩ = some (.int .i64 s) := by rw [(bcell hb1).1 _ _ (by simp <;> omega), old_box (by simp <;> omega)]; first | (rw [new_at (by simp)]; rfl) | simp
  have c1_2 : v1.cell? ⟨w.heap.size, 2, none⟩ = some (.int .i64 ag) := by rw [(bcell hb1).1 _ _ (by simp <;> omega), old_box (by simp <;> omega)]; first | (rw [new_at (by simp)]; rfl) | simp
  have c1_3 : v1.cell? ⟨w.heap.size, 3, none⟩ = some (.slice ad n cp) := by rw [(bcell hb1).1 _ _ (by simp <;> omega), old_box (by simp <;> omega)]; first | (rw [new_at (by simp)]; rfl) | simp
  have c1_4 : v1.cell? ⟨w.heap.size, 4, none⟩ = some (.slice ae m cq) := by rw [(bcell hb1).1 _ _ (by simp <;> omega), old_box (by simp <;> omega)]; first | (rw [new_at (by simp)]; rfl) | simp
  have c1_5 : v1.cell? ⟨w.heap.size + 1, 0, none⟩ = some (.int .i64 0) := by rw [(bcell hb1).1 _ _ (by simp)]; first | (rw [new_at (by simp)]; rfl) | simp
  have c1_6 : v1.cell? ⟨w.heap.size + 1, 1, none⟩ = some (.int .i64 0) := by rw [(bcell hb1).1 _ _ (by simp)]; first | (rw [new_at (by simp)]; rfl) | simp
  have c1_7 : v1.cell? ⟨w.heap.size + 1, 2, none⟩ = some (.int .i64 0) := by rw [(bcell hb1).1 _ _ (by simp)]; first | (rw [new_at (by simp)]; rfl) | simp
  have c1_8 : v1.cell? ⟨w.heap.size + 1, 3, none⟩ = some (.slice none 0 0) := by rw [(bcell hb1).1 _ _ (by simp)]; first | (rw [new_at (by simp)]; rfl) | simp
  have c1_9 : v1.cell? ⟨w.heap.size + 1, 4, none⟩ = some (.slice none 0 0) := by rw [(bcell hb1).1 _ _ (by simp)]; first | (rw [new_at (by simp)]; rfl) | simp
  have g1_0 : v1.frozen? ⟨w.heap.size, 0, none⟩ = false := by rw [(bcell hb1).2 _ _ (by simp <;> omega), old_frz (by simp <;> omega), new_frz (by simp)]
  have g1_1 : v1.frozen? ⟨w.heap.size, 1, none⟩ = false := by rw [(bcell hb1).2 _ _ (by simp <;> omega), old_frz (by simp <;> omega), new_frz (by simp)]
  have g1_2 : v1.frozen? ⟨w.heap.size, 2, none⟩ = false := by rw [(bcell hb1).2 _ _ (by simp <;> omega), old_frz (by simp <;> omega), new_frz (by simp)]
  have g1_3 : v1.frozen? ⟨w.heap.size, 3, none⟩ = false := by rw [(bcell hb1).2 _ _ (by simp <;> omega), old_frz (by simp <;> omega), new_frz (by simp)]
  have g1_4 : v1.frozen? ⟨w.heap.size, 4, none⟩ = false := by rw [(bcell hb1).2 _ _ (by simp <;> omega), old_frz (by simp <;> omega), new_frz (by simp)]
  have g1_5 : v1.frozen? ⟨w.heap.size + 1, 0, none⟩ = false := by rw [(bcell hb1).2 _ _ (by simp), new_frz (by simp)]
  have g1_6 : v1.frozen? ⟨w.heap.size + 1, 1, none⟩ = false := by rw [(bcell hb1).2 _ _ (by simp), new_frz (by simp)]
  have g1_7 : v1.frozen? ⟨w.heap.size + 1, 2, none⟩ = false := by rw [(bcell hb1).2 _ _ (by simp), new_frz (by simp)]
  have g1_8 : v1.frozen? ⟨w.heap.size + 1, 3, none⟩ = false := by rw [(bcell hb1).2 _ _ (by simp), new_frz (by simp)]
  have g1_9 : v1.frozen? ⟨w.heap.size + 1, 4, none⟩ = false := by rw [(bcell hb1).2 _ _ (by simp), new_frz (by simp)]
  have B1 : Hid (Below w.heap.size w v1) := st1
  have R1_0 : Hid (LRow v1 (lo) (hi) (.slice ad n cp) (.slice ae m cq) n m (flat2 K) (flat T)) := R0.out.below st1 (by omega)
  have R1_1 : Hid (LRow v1 (0) (w.heap.size) (.slice bd n1 dp) (.slice be n2 dq) n1 n2 (flat2 K2) (flat T2)) := R1.out.below st1 (by omega)
  have d1_0 : w.heap.size < v1.heap.size := by omega
  have e1_0 : w.heap.size ≠ v1.heap.size := by omega
  have d1_1 : w.heap.size + 1 < v1.heap.size := by omega
  have e1_1 : w.heap.size + 1 ≠ v1.heap.size := by omega
  clear st1 R0 R1 hb1
  go_wp2_with fail
  go_at_call 57
  refine (scopy_any o (s + 1) 0 0 w.heap.size n1 n2 _ _ K2 T2 _ HK2.out HT2.out R1_1.out (by first | omega | (simp; done) | (simp; omega)) hn1 hn2).mono ?_
  rintro e v2 ⟨ru, rv, rfl, hrc, hb2⟩
  have sz2 : v1.heap.size ≤ v2.heap.size := hb2.size
  have st2 : Below v1.heap.size v1 v2 := hb2
  have c2_0 : v2.cell? ⟨w.heap.size, 0, none⟩ = some (.int .i64 o) := by rw [(bcell st2).1 _ _ (by omega)]; exact c1_0
  have c2_1 : v2.cell? ⟨w.heap.size, 1, none⟩ = some (.int .i64 s) := by rw [(bcell st2).1 _ _ (by omega)]; exact c1_1
  have c2_2 : v2.cell? ⟨w.heap.size, 2, none⟩ = some (.int .i64 ag) := by rw [(bcell st2).1 _ _ (by omega)]; exact c1_2
  have c2_3 : v2.cell? ⟨w.heap.size, 3, none⟩ = some (.slice ad n cp) := by rw [(bcell st2).1 _ _ (by omega)]; exact c1_3
  have c2_4 : v2.cell? ⟨w.heap.size, 4, none⟩ = some (.slice ae m cq) := by rw [(bcell st2).1 _ _ (by omega)]; exact c1_4
  have c2_5 : v2.cell? ⟨w.heap.size + 1, 0, none⟩ = some (.int .i64 0) := by rw [(bcell st2).1 _ _ (by omega)]; exact c1_5
  have c2_6 : v2.cell? ⟨w.heap.size + 1, 1, none⟩ = some (.int .i64 0) := by rw [(bcell st2).1 _ _ (by omega)]; exact c1_6
  have c2_7 : v2.cell? ⟨w.heap.size + 1, 2, none⟩ = some (.int .i64 0) := by rw [(bcell st2).1 _ _ (by omega)]; exact c1_7
  have c2_8 : v2.cell? ⟨w.heap.size + 1, 3, none⟩ = some (.slice none 0 0) := by rw [(bcell st2).1 _ _ (by omega)]; exact c1_8
  have c2_9 : v2.cell? ⟨w.heap.size + 1, 4, none⟩ = some (.slice none 0 0) := by rw [(bcell st2).1 _ _ (by omega)]; exact c1_9
  have g2_0 : v2.frozen? ⟨w.heap.size, 0, none⟩ = false := by rw [(bcell st2).2 _ _ (by omega)]; exact g1_0
  have g2_1 : v2.frozen? ⟨w.heap.size, 1, none⟩ = false := by rw [(bcell st2).2 _ _ (by omega)]; exact g1_1
  have g2_2 : v2.frozen? ⟨w.heap.size, 2, none⟩ = false := by rw [(bcell st2).2 _ _ (by omega)]; exact g1_2
  have g2_3 : v2.frozen? ⟨w.heap.size, 3, none⟩ = false := by rw [(bcell st2).2 _ _ (by omega)]; exact g1_3
  have g2_4 : v2.frozen? ⟨w.heap.size, 4, none⟩ = false := by rw [(bcell st2).2 _ _ (by omega)]; exact g1_4
  have g2_5 : v2.frozen? ⟨w.heap.size + 1, 0, none⟩ = false := by rw [(bcell st2).2 _ _ (by omega)]; exact g1_5
  have g2_6 : v2.frozen? ⟨w.heap.size + 1, 1, none⟩ = false := by rw [(bcell st2).2 _ _ (by omega)]; exact g1_6
  have g2_7 : v2.frozen? ⟨w.heap.size + 1, 2, none⟩ = false := by rw [(bcell st2).2 _ _ (by omega)]; exact g1_7
  have g2_8 : v2.frozen? ⟨w.heap.size + 1, 3, none⟩ = false := by rw [(bcell st2).2 _ _ (by omega)]; exact g1_8
  have g2_9 : v2.frozen? ⟨w.heap.size + 1, 4, none⟩ = false := by rw [(bcell st2).2 _ _ (by omega)]; exact g1_9
  have B2 : Hid (Below w.heap.size w v2) := B1.out.trans (st2.mono (by omega))
  have R2_0 : Hid (LRow v2 (lo) (hi) (.slice ad n cp) (.slice ae m cq) n m (flat2 K) (flat T)) := R1_0.out.below st2 (by omega)
  have R2_1 : Hid (LRow v2 (0) (w.heap.size) (.slice bd n1 dp) (.slice be n2 dq) n1 n2 (flat2 K2) (flat T2)) := R1_1.out.below st2 (by omega)
  have R2_2 : Hid (LRow v2 (v1.heap.size) (v2.heap.size) ru rv n1 n2 (flat2 K2) (flat T2)) := Lib.hid (hrc)
  have d2_0 : w.heap.size < v2.heap.size := by omega
  have e2_0 : w.heap.size ≠ v2.heap.size := by omega
  have d2_1 : w.heap.size + 1 < v2.heap.size := by omega
  have e2_1 : w.heap.size + 1 ≠ v2.heap.size := by omega
  clear d1_0 e1_0 d1_1 e1_1 c1_0 c1_1 c1_2 c1_3 c1_4 c1_5 c1_6 c1_7 c1_8 c1_9 g1_0 g1_1 g1_2 g1_3 g1_4 g1_5 g1_6 g1_7 g1_8 g1_9 B1 st2 R1_0 R1_1 hb2
  obtain ⟨ra, rc, sa, sc, rfl, rfl⟩ := R2_2.out.slice
  clear hrc
  go_wp2_with fail
  go_at_call 12
  refine (slok_any o (s + 1) 0 0 v2.heap.size 0 v2.heap.size n1 n2 _ _ K2 T2 _ HK2.out HT2.out (((R2_2.out.below (B := v2.heap.size) (by go_grown) (by omega))).fst.wide (Nat.zero_le _) (by omega)) (((R2_2.out.below (B := v2.heap.size) (by go_grown) (by omega))).snd.wide (Nat.zero_le _) (by omega)) (by first | omega | (simp; done) | (simp; omega)) (by first | omega | (simp; done) | (simp; omega))).mono ?_
  rw [Hw.out]
  rintro e v3 ⟨rfl, hb3⟩
  have sz3 : v2.heap.size + 1 ≤ v3.heap.size := by have hh := hb3.size; simp at hh; omega
  have st3 : Below v2.heap.size v2 v3 := Below.trans (by go_grown) (hb3.mono (by simp))
  have c3_0 : v3.cell? ⟨w.heap.size, 0, none⟩ = some (.int .i64 o) := by rw [(bcell st3).1 _ _ (by omega)]; exact c2_0
  have c3_1 : v3.cell? ⟨w.heap.size, 1, none⟩ = some (.int .i64 s) := by rw [(bcell st3).1 _ _ (by omega)]; exact c2_1
  have c3_2 : v3.cell? ⟨w.heap.size, 2, none⟩ = some (.int .i64 ag) := by rw [(bcell st3).1 _ _ (by omega)]; exact c2_2
  have c3_3 : v3.cell? ⟨w.heap.size, 3, none⟩ = some (.slice ad n cp) := by rw [(bcell st3).1 _ _ (by omega)]; exact c2_3
  have c3_4 : v3.cell? ⟨w.heap.size, 4, none⟩ = some (.slice ae m cq) := by rw [(bcell st3).1 _ _ (by omega)]; exact c2_4
  have c3_5 : v3.cell? ⟨w.heap.size + 1, 0, none⟩ = some (.int .i64 0) := by rw [(bcell st3).1 _ _ (by omega)]; exact c2_5
  have c3_6 : v3.cell? ⟨w.heap.size + 1, 1, none⟩ = some (.int .i64 0) := by rw [(bcell st3).1 _ _ (by omega)]; exact c2_6
  have c3_7 : v3.cell? ⟨w.heap.size + 1, 2, none⟩ = some (.int .i64 0) := by rw [(bcell st3).1 _ _ (by omega)]; exact c2_7
  have c3_8 : v3.cell? ⟨w.heap.size + 1, 3, none⟩ = some (.slice none 0 0) := by rw [(bcell st3).1 _ _ (by omega)]; exact c2_8
  have c3_9 : v3.cell? ⟨w.heap.size + 1, 4, none⟩ = some (.slice none 0 0) := by rw [(bcell st3).1 _ _ (by omega)]; exact c2_9
  have c3_10 : v3.cell? ⟨v2.heap.size, 0, none⟩ = some (.int .i64 o) := by rw [(bcell hb3).1 _ _ (by simp)]; first | (rw [new_at (by simp)]; rfl) | simp
  have c3_11 : v3.cell? ⟨v2.heap.size, 1, none⟩ = some (.int .i64 (s + 1)) := by rw [(bcell hb3).1 _ _ (by simp)]; first | (rw [new_at (by simp)]; rfl) | simp
  have c3_12 : v3.cell? ⟨v2.heap.size, 2, none⟩ = some (.int .i64 0) := by rw [(bcell hb3).1 _ _ (by simp)]; first | (rw [new_at (by simp)]; rfl) | simp
  have c3_13 : v3.cell? ⟨v2.heap.size, 3, none⟩ = some (.slice ra n1 rc) := by rw [(bcell hb3).1 _ _ (by simp)]; first | (rw [new_at (by simp)]; rfl) | simp
  have c3_14 : v3.cell? ⟨v2.heap.size, 4, none⟩ = some (.slice sa n2 sc) := by rw [(bcell hb3).1 _ _ (by simp)]; first | (rw [new_at (by simp)]; rfl) | simp
  have g3_0 : v3.frozen? ⟨w.heap.size, 0, none⟩ = false := by rw [(bcell st3).2 _ _ (by omega)]; exact g2_0
  have g3_1 : v3.frozen? ⟨w.heap.size, 1, none⟩ = false := by rw [(bcell st3).2 _ _ (by omega)]; exact g2_1
  have g3_2 : v3.frozen? ⟨w.heap.size, 2, none⟩ = false := by rw [(bcell st3).2 _ _ (by omega)]; exact g2_2
  have g3_3 : v3.frozen? ⟨w.heap.size, 3, none⟩ = false := by rw [(bcell st3).2 _ _ (by omega)]; exact g2_3
  have g3_4 : v3.frozen? ⟨w.heap.size, 4, none⟩ = false := by rw [(bcell st3).2 _ _ (by omega)]; exact g2_4
  have g3_5 : v3.frozen? ⟨w.heap.size + 1, 0, none⟩ = false := by rw [(bcell st3).2 _ _ (by omega)]; exact g2_5
  have g3_6 : v3.frozen? ⟨w.heap.size + 1, 1, none⟩ = false := by rw [(bcell st3).2 _ _ (by omega)]; exact g2_6
  have g3_7 : v3.frozen? ⟨w.heap.size + 1, 2, none⟩ = false := by rw [(bcell st3).2 _ _ (by omega)]; exact g2_7
  have g3_8 : v3.frozen? ⟨w.heap.size + 1, 3, none⟩ = false := by rw [(bcell st3).2 _ _ (by omega)]; exact g2_8
  have g3_9 : v3.frozen? ⟨w.heap.size + 1, 4, none⟩ = false := by rw [(bcell st3).2 _ _ (by omega)]; exact g2_9
  have B3 : Hid (Below w.heap.size w v3) := B2.out.trans (st3.mono (by omega))
  have R3_0 : Hid (LRow v3 (lo) (hi) (.slice ad n cp) (.slice ae m cq) n m (flat2 K) (flat T)) := R2_0.out.below st3 (by omega)
  have R3_1 : Hid (LRow v3 (0) (w.heap.size) (.slice bd n1 dp) (.slice be n2 dq) n1 n2 (flat2 K2) (flat T2)) := R2_1.out.below st3 (by omega)
  have R3_2 : Hid (LRow v3 (v1.heap.size) (v2.heap.size) (.slice ra n1 rc) (.slice sa n2 sc) n1 n2 (flat2 K2) (flat T2)) := R2_2.out.below st3 (by omega)
  have d3_0 : w.heap.size < v3.heap.size := by omega
  have e3_0 : w.heap.size ≠ v3.heap.size := by omega
  have d3_1 : w.heap.size + 1 < v3.heap.size := by omega
  have e3_1 : w.heap.size + 1 ≠ v3.heap.size := by omega
  have d3_2 : v2.heap.size < v3.heap.size := by omega
  have e3_2 : v2.heap.size ≠ v3.heap.size := by omega
  clear d2_0 e2_0 d2_1 e2_1 c2_0 c2_1 c2_2 c2_3 c2_4 c2_5 c2_6 c2_7 c2_8 c2_9 g2_0 g2_1 g2_2 g2_3 g2_4 g2_5 g2_6 g2_7 g2_8 g2_9 B2 st3 R2_0 R2_1 R2_2 hb3
  go_wp2_with fail
  refine bodyPost_ret (v := .tuple #[.agg #[.int .i64 0, .int .i64 0, .int .i64 0, .slice none 0 0, .slice none 0 0], .bool false]) (by simp [results, Try.results35, go_sem, *]) rfl ⟨_, _, rfl, ⟨w.heap.size, Nat.le_refl _, ?_, ⟨rfl, .inl ⟨rfl, none, 0, rfl⟩⟩, ⟨rfl, .inl ⟨rfl, none, 0, rfl⟩⟩⟩, ?_⟩
  · simp [World.setCell] <;> omega
  · exact ((((B3.out.setCell (by simp <;> omega) _).setCell (by simp <;> omega) _).setCell (by simp <;> omega) _).setCell (by simp <;> omega) _).setCell (by simp <;> omega) _

set_option linter.unusedVariables false in
set_option maxRecDepth 100000 in
set_option maxHeartbeats 4000000 in
theorem snext_2 (o s ag : Int) (lo hi n m lo1 hi1 n1 lo2 hi2 n2 : Nat) (u v v1 v2 : Value) (K : List Lk) (T : List Ed) (K2 : List Lk) (T2 : List Ed) (w : World) (hK : K.length = n) (hT : T.length = m) (hK2 : K2.length = n1) (hT2 : T2.length = n2) (hr : LRow w lo hi u v n m (flat2 K) (flat T)) (hh : hi ≤ w.heap.size) (hr1 : Row 2 w lo1 hi1 v1 n1 (flat2 K2)) (hh1 : hi1 ≤ w.heap.size) (hr2 : Row 3 w lo2 hi2 v2 n2 (flat T2)) (hh2 : hi2 ≤ w.heap.size) (h12 : hi1 ≤ lo2) (hn1 : n1 ≤ 1048576) (hn2 : n2 ≤ 1048576) (hv : lokB o s ag K T = true) (hw : lokB o (s + 1) 0 K2 T2 = true) :
    Calls Try.prog 35 #[.agg #[.int .i64 o, .int .i64 s, .int .i64 ag, u, v], v1, v2] w fun e w' => ∃ ru rv, e = .returned (.tuple #[.agg #[.int .i64 o, .int .i64 (s + 1), .int .i64 0, ru, rv], .bool true]) ∧ LRow w' w.heap.size w'.heap.size ru rv n1 n2 (flat2 K2) (flat T2) ∧ Below w.heap.size w w' := by
  have hbd := lok_bds hv
  obtain ⟨sb0, sb1⟩ := hbd
  have Hv := Lib.hid hv
  have Hw := Lib.hid hw
  clear hv hw
  have HK := Lib.hid hK
  have HT := Lib.hid hT
  have HK2 := Lib.hid hK2
  have HT2 := Lib.hid hT2
  have R0 := Lib.hid hr
  have R1 : Hid (LRow w 0 w.heap.size v1 v2 n1 n2 (flat2 K2) (flat T2)) := Lib.hid ⟨hi1, Nat.zero_le _, hh1, hr1.wide (Nat.zero_le _) (Nat.le_refl _), hr2.wide h12 hh2⟩
  obtain ⟨ad, cp, ae, cq, rfl, rfl⟩ := hr.slice
  obtain ⟨bd, dp, rfl⟩ := hr1.slice
  obtain ⟨be, dq, rfl⟩ := hr2.slice
  clear hr hK hT hr1 hr2 hK2 hT2
  go_enter Try.func35, Try.ntmps35
  go_wp2_with fail
  go_at_call 12
  refine (slok_any o s ag lo hi lo hi n m _ _ K T _ HK.out HT.out ((R0.out.below (B := w.heap.size) (by go_grown) (by omega))).fst ((R0.out.below (B := w.heap.size) (by go_grown) (by omega))).snd (by first | omega | (simp; done) | (simp; omega)) (by first | omega | (simp; done) | (simp; omega))).mono ?_
  rw [Hv.out]
  rintro e v1 ⟨rfl, hb1⟩
  have sz1 : w.heap.size + 2 ≤ v1.heap.size := by have hh := hb1.size; simp at hh; omega
  have st1 : Below w.heap.size w v1 := Below.trans (by go_grown) (hb1.mono (by simp <;> omega))
  have c1_0 : v1.cell? ⟨w.heap.size, 0, none⟩ = some (.int .i64 o) := by rw [(bcell hb1).1 _ _ (by simp <;> omega), old_box (by simp <;> omega)]; first | (rw [new_at (by simp)]; rfl) | simp
  have c1_1 : v1.cell? ⟨w.heap.size, 1, none⟩ = some (.int .i64 s) := by rw [(bcell hb1).1 _ _ (by simp <;> omega), old_box (by simp <;> omega)]; first | (rw [new_at (by simp)]; rfl) | simp
  have c1_2 : v1.cell? ⟨w.heap.size, 2, none⟩ = some (.int .i64 ag) := by rw [(bcell hb1).1 _ _ (by simp <;> omega), old_box (by simp <;> omega)]; first | (rw [new_at (by simp)]; rfl) | simp
  have c1_3 : v1.cell? ⟨w.heap.size, 3, none⟩ = some (.slice ad n cp) := by rw [(bcell hb1).1 _ _ (by simp <;> omega), old_box (by simp <;> omega)]; first | (rw [new_at (by simp)]; rfl) | simp
  have c1_4 : v1.cell? ⟨w.heap.size, 4, none⟩ = some (.slice ae m cq) := by rw [(bcell hb1).1 _ _ (by simp <;> omega), old_box (by simp <;> omega)]; first | (rw [new_at (by simp)]; rfl) | simp
  have c1_5 : v1.cell? ⟨w.heap.size + 1, 0, none⟩ = some (.int .i64 0) := by rw [(bcell hb1).1 _ _ (by simp)]; first | (rw [new_at (by simp)]; rfl) | simp
  have c1_6 : v1.cell? ⟨w.heap.size + 1, 1, none⟩ = some (.int .i64 0) := by rw [(bcell hb1).1 _ _ (by simp)]; first | (rw [new_at (by simp)]; rfl) | simp
  have c1_7 : v1.cell? ⟨w.heap.size + 1, 2, none⟩ = some (.int .i64 0) := by rw [(bcell hb1).1 _ _ (by simp)]; first | (rw [new_at (by simp)]; rfl) | simp
  have c1_8 : v1.cell? ⟨w.heap.size + 1, 3, none⟩ = some (.slice none 0 0) := by rw [(bcell hb1).1 _ _ (by simp)]; first | (rw [new_at (by simp)]; rfl) | simp
  have c1_9 : v1.cell? ⟨w.heap.size + 1, 4, none⟩ = some (.slice none 0 0) := by rw [(bcell hb1).1 _ _ (by simp)]; first | (rw [new_at (by simp)]; rfl) | simp
  have g1_0 : v1.frozen? ⟨w.heap.size, 0, none⟩ = false := by rw [(bcell hb1).2 _ _ (by simp <;> omega), old_frz (by simp <;> omega), new_frz (by simp)]
  have g1_1 : v1.frozen? ⟨w.heap.size, 1, none⟩ = false := by rw [(bcell hb1).2 _ _ (by simp <;> omega), old_frz (by simp <;> omega), new_frz (by simp)]
  have g1_2 : v1.frozen? ⟨w.heap.size, 2, none⟩ = false := by rw [(bcell hb1).2 _ _ (by simp <;> omega), old_frz (by simp <;> omega), new_frz (by simp)]
  have g1_3 : v1.frozen? ⟨w.heap.size, 3, none⟩ = false := by rw [(bcell hb1).2 _ _ (by simp <;> omega), old_frz (by simp <;> omega), new_frz (by simp)]
  have g1_4 : v1.frozen? ⟨w.heap.size, 4, none⟩ = false := by rw [(bcell hb1).2 _ _ (by simp <;> omega), old_frz (by simp <;> omega), new_frz (by simp)]
  have g1_5 : v1.frozen? ⟨w.heap.size + 1, 0, none⟩ = false := by rw [(bcell hb1).2 _ _ (by simp), new_frz (by simp)]
  have g1_6 : v1.frozen? ⟨w.heap.size + 1, 1, none⟩ = false := by rw [(bcell hb1).2 _ _ (by simp), new_frz (by simp)]
  have g1_7 : v1.frozen? ⟨w.heap.size + 1, 2, none⟩ = false := by rw [(bcell hb1).2 _ _ (by simp), new_frz (by simp)]
  have g1_8 : v1.frozen? ⟨w.heap.size + 1, 3, none⟩ = false := by rw [(bcell hb1).2 _ _ (by simp), new_frz (by simp)]
  have g1_9 : v1.frozen? ⟨w.heap.size + 1, 4, none⟩ = false := by rw [(bcell hb1).2 _ _ (by simp), new_frz (by simp)]
  have B1 : Hid (Below w.heap.size w v1) := st1
  have R1_0 : Hid (LRow v1 (lo) (hi) (.slice ad n cp) (.slice ae m cq) n m (flat2 K) (flat T)) := R0.out.below st1 (by omega)
  have R1_1 : Hid (LRow v1 (0) (w.heap.size) (.slice bd n1 dp) (.slice be n2 dq) n1 n2 (flat2 K2) (flat T2)) := R1.out.below st1 (by omega)
  have d1_0 : w.heap.size < v1.heap.size := by omega
  have e1_0 : w.heap.size ≠ v1.heap.size := by omega
  have d1_1 : w.heap.size + 1 < v1.heap.size := by omega
  have e1_1 : w.heap.size + 1 ≠ v1.heap.size := by omega
  clear st1 R0 R1 hb1
  go_wp2_with fail
  go_at_call 57
  refine (scopy_any o (s + 1) 0 0 w.heap.size n1 n2 _ _ K2 T2 _ HK2.out HT2.out R1_1.out (by first | omega | (simp; done) | (simp; omega)) hn1 hn2).mono ?_
  rintro e v2 ⟨ru, rv, rfl, hrc, hb2⟩
  have sz2 : v1.heap.size ≤ v2.heap.size := hb2.size
  have st2 : Below v1.heap.size v1 v2 := hb2
  have c2_0 : v2.cell? ⟨w.heap.size, 0, none⟩ = some (.int .i64 o) := by rw [(bcell st2).1 _ _ (by omega)]; exact c1_0
  have c2_1 : v2.cell? ⟨w.heap.size, 1, none⟩ = some (.int .i64 s) := by rw [(bcell st2).1 _ _ (by omega)]; exact c1_1
  have c2_2 : v2.cell? ⟨w.heap.size, 2, none⟩ = some (.int .i64 ag) := by rw [(bcell st2).1 _ _ (by omega)]; exact c1_2
  have c2_3 : v2.cell? ⟨w.heap.size, 3, none⟩ = some (.slice ad n cp) := by rw [(bcell st2).1 _ _ (by omega)]; exact c1_3
  have c2_4 : v2.cell? ⟨w.heap.size, 4, none⟩ = some (.slice ae m cq) := by rw [(bcell st2).1 _ _ (by omega)]; exact c1_4
  have c2_5 : v2.cell? ⟨w.heap.size + 1, 0, none⟩ = some (.int .i64 0) := by rw [(bcell st2).1 _ _ (by omega)]; exact c1_5
  have c2_6 : v2.cell? ⟨w.heap.size + 1, 1, none⟩ = some (.int .i64 0) := by rw [(bcell st2).1 _ _ (by omega)]; exact c1_6
  have c2_7 : v2.cell? ⟨w.heap.size + 1, 2, none⟩ = some (.int .i64 0) := by rw [(bcell st2).1 _ _ (by omega)]; exact c1_7
  have c2_8 : v2.cell? ⟨w.heap.size + 1, 3, none⟩ = some (.slice none 0 0) := by rw [(bcell st2).1 _ _ (by omega)]; exact c1_8
  have c2_9 : v2.cell? ⟨w.heap.size + 1, 4, none⟩ = some (.slice none 0 0) := by rw [(bcell st2).1 _ _ (by omega)]; exact c1_9
  have g2_0 : v2.frozen? ⟨w.heap.size, 0, none⟩ = false := by rw [(bcell st2).2 _ _ (by omega)]; exact g1_0
  have g2_1 : v2.frozen? ⟨w.heap.size, 1, none⟩ = false := by rw [(bcell st2).2 _ _ (by omega)]; exact g1_1
  have g2_2 : v2.frozen? ⟨w.heap.size, 2, none⟩ = false := by rw [(bcell st2).2 _ _ (by omega)]; exact g1_2
  have g2_3 : v2.frozen? ⟨w.heap.size, 3, none⟩ = false := by rw [(bcell st2).2 _ _ (by omega)]; exact g1_3
  have g2_4 : v2.frozen? ⟨w.heap.size, 4, none⟩ = false := by rw [(bcell st2).2 _ _ (by omega)]; exact g1_4
  have g2_5 : v2.frozen? ⟨w.heap.size + 1, 0, none⟩ = false := by rw [(bcell st2).2 _ _ (by omega)]; exact g1_5
  have g2_6 : v2.frozen? ⟨w.heap.size + 1, 1, none⟩ = false := by rw [(bcell st2).2 _ _ (by omega)]; exact g1_6
  have g2_7 : v2.frozen? ⟨w.heap.size + 1, 2, none⟩ = false := by rw [(bcell st2).2 _ _ (by omega)]; exact g1_7
  have g2_8 : v2.frozen? ⟨w.heap.size + 1, 3, none⟩ = false := by rw [(bcell st2).2 _ _ (by omega)]; exact g1_8
  have g2_9 : v2.frozen? ⟨w.heap.size + 1, 4, none⟩ = false := by rw [(bcell st2).2 _ _ (by omega)]; exact g1_9
  have B2 : Hid (Below w.heap.size w v2) := B1.out.trans (st2.mono (by omega))
  have R2_0 : Hid (LRow v2 (lo) (hi) (.slice ad n cp) (.slice ae m cq) n m (flat2 K) (flat T)) := R1_0.out.below st2 (by omega)
  have R2_1 : Hid (LRow v2 (0) (w.heap.size) (.slice bd n1 dp) (.slice be n2 dq) n1 n2 (flat2 K2) (flat T2)) := R1_1.out.below st2 (by omega)
  have R2_2 : Hid (LRow v2 (v1.heap.size) (v2.heap.size) ru rv n1 n2 (flat2 K2) (flat T2)) := Lib.hid (hrc)
  have d2_0 : w.heap.size < v2.heap.size := by omega
  have e2_0 : w.heap.size ≠ v2.heap.size := by omega
  have d2_1 : w.heap.size + 1 < v2.heap.size := by omega
  have e2_1 : w.heap.size + 1 ≠ v2.heap.size := by omega
  clear d1_0 e1_0 d1_1 e1_1 c1_0 c1_1 c1_2 c1_3 c1_4 c1_5 c1_6 c1_7 c1_8 c1_9 g1_0 g1_1 g1_2 g1_3 g1_4 g1_5 g1_6 g1_7 g1_8 g1_9 B1 st2 R1_0 R1_1 hb2
  obtain ⟨ra, rc, sa, sc, rfl, rfl⟩ := R2_2.out.slice
  clear hrc
  go_wp2_with fail
  go_at_call 12
  refine (slok_any o (s + 1) 0 0 v2.heap.size 0 v2.heap.size n1 n2 _ _ K2 T2 _ HK2.out HT2.out (((R2_2.out.below (B := v2.heap.size) (by go_grown) (by omega))).fst.wide (Nat.zero_le _) (by omega)) (((R2_2.out.below (B := v2.heap.size) (by go_grown) (by omega))).snd.wide (Nat.zero_le _) (by omega)) (by first | omega | (simp; done) | (simp; omega)) (by first | omega | (simp; done) | (simp; omega))).mono ?_
  rw [Hw.out]
  rintro e v3 ⟨rfl, hb3⟩
  have sz3 : v2.heap.size + 1 ≤ v3.heap.size := by have hh := hb3.size; simp at hh; omega
  have st3 : Below v2.heap.size v2 v3 := Below.trans (by go_grown) (hb3.mono (by simp))
  have c3_0 : v3.cell? ⟨w.heap.size, 0, none⟩ = some (.int .i64 o) := by rw [(bcell st3).1 _ _ (by omega)]; exact c2_0
  have c3_1 : v3.cell? ⟨w.heap.size, 1, none⟩ = some (.int .i64 s) := by rw [(bcell st3).1 _ _ (by omega)]; exact c2_1
  have c3_2 : v3.cell? ⟨w.heap.size, 2, none⟩ = some (.int .i64 ag) := by rw [(bcell st3).1 _ _ (by omega)]; exact c2_2
  have c3_3 : v3.cell? ⟨w.heap.size, 3, none⟩ = some (.slice ad n cp) := by rw [(bcell st3).1 _ _ (by omega)]; exact c2_3
  have c3_4 : v3.cell? ⟨w.heap.size, 4, none⟩ = some (.slice ae m cq) := by rw [(bcell st3).1 _ _ (by omega)]; exact c2_4
  have c3_5 : v3.cell? ⟨w.heap.size + 1, 0, none⟩ = some (.int .i64 0) := by rw [(bcell st3).1 _ _ (by omega)]; exact c2_5
  have c3_6 : v3.cell? ⟨w.heap.size + 1, 1, none⟩ = some (.int .i64 0) := by rw [(bcell st3).1 _ _ (by omega)]; exact c2_6
  have c3_7 : v3.cell? ⟨w.heap.size + 1, 2, none⟩ = some (.int .i64 0) := by rw [(bcell st3).1 _ _ (by omega)]; exact c2_7
  have c3_8 : v3.cell? ⟨w.heap.size + 1, 3, none⟩ = some (.slice none 0 0) := by rw [(bcell st3).1 _ _ (by omega)]; exact c2_8
  have c3_9 : v3.cell? ⟨w.heap.size + 1, 4, none⟩ = some (.slice none 0 0) := by rw [(bcell st3).1 _ _ (by omega)]; exact c2_9
  have c3_10 : v3.cell? ⟨v2.heap.size, 0, none⟩ = some (.int .i64 o) := by rw [(bcell hb3).1 _ _ (by simp)]; first | (rw [new_at (by simp)]; rfl) | simp
  have c3_11 : v3.cell? ⟨v2.heap.size, 1, none⟩ = some (.int .i64 (s + 1)) := by rw [(bcell hb3).1 _ _ (by simp)]; first | (rw [new_at (by simp)]; rfl) | simp
  have c3_12 : v3.cell? ⟨v2.heap.size, 2, none⟩ = some (.int .i64 0) := by rw [(bcell hb3).1 _ _ (by simp)]; first | (rw [new_at (by simp)]; rfl) | simp
  have c3_13 : v3.cell? ⟨v2.heap.size, 3, none⟩ = some (.slice ra n1 rc) := by rw [(bcell hb3).1 _ _ (by simp)]; first | (rw [new_at (by simp)]; rfl) | simp
  have c3_14 : v3.cell? ⟨v2.heap.size, 4, none⟩ = some (.slice sa n2 sc) := by rw [(bcell hb3).1 _ _ (by simp)]; first | (rw [new_at (by simp)]; rfl) | simp
  have g3_0 : v3.frozen? ⟨w.heap.size, 0, none⟩ = false := by rw [(bcell st3).2 _ _ (by omega)]; exact g2_0
  have g3_1 : v3.frozen? ⟨w.heap.size, 1, none⟩ = false := by rw [(bcell st3).2 _ _ (by omega)]; exact g2_1
  have g3_2 : v3.frozen? ⟨w.heap.size, 2, none⟩ = false := by rw [(bcell st3).2 _ _ (by omega)]; exact g2_2
  have g3_3 : v3.frozen? ⟨w.heap.size, 3, none⟩ = false := by rw [(bcell st3).2 _ _ (by omega)]; exact g2_3
  have g3_4 : v3.frozen? ⟨w.heap.size, 4, none⟩ = false := by rw [(bcell st3).2 _ _ (by omega)]; exact g2_4
  have g3_5 : v3.frozen? ⟨w.heap.size + 1, 0, none⟩ = false := by rw [(bcell st3).2 _ _ (by omega)]; exact g2_5
  have g3_6 : v3.frozen? ⟨w.heap.size + 1, 1, none⟩ = false := by rw [(bcell st3).2 _ _ (by omega)]; exact g2_6
  have g3_7 : v3.frozen? ⟨w.heap.size + 1, 2, none⟩ = false := by rw [(bcell st3).2 _ _ (by omega)]; exact g2_7
  have g3_8 : v3.frozen? ⟨w.heap.size + 1, 3, none⟩ = false := by rw [(bcell st3).2 _ _ (by omega)]; exact g2_8
  have g3_9 : v3.frozen? ⟨w.heap.size + 1, 4, none⟩ = false := by rw [(bcell st3).2 _ _ (by omega)]; exact g2_9
  have B3 : Hid (Below w.heap.size w v3) := B2.out.trans (st3.mono (by omega))
  have R3_0 : Hid (LRow v3 (lo) (hi) (.slice ad n cp) (.slice ae m cq) n m (flat2 K) (flat T)) := R2_0.out.below st3 (by omega)
  have R3_1 : Hid (LRow v3 (0) (w.heap.size) (.slice bd n1 dp) (.slice be n2 dq) n1 n2 (flat2 K2) (flat T2)) := R2_1.out.below st3 (by omega)
  have R3_2 : Hid (LRow v3 (v1.heap.size) (v2.heap.size) (.slice ra n1 rc) (.slice sa n2 sc) n1 n2 (flat2 K2) (flat T2)) := R2_2.out.below st3 (by omega)
  have d3_0 : w.heap.size < v3.heap.size := by omega
  have e3_0 : w.heap.size ≠ v3.heap.size := by omega
  have d3_1 : w.heap.size + 1 < v3.heap.size := by omega
  have e3_1 : w.heap.size + 1 ≠ v3.heap.size := by omega
  have d3_2 : v2.heap.size < v3.heap.size := by omega
  have e3_2 : v2.heap.size ≠ v3.heap.size := by omega
  clear d2_0 e2_0 d2_1 e2_1 c2_0 c2_1 c2_2 c2_3 c2_4 c2_5 c2_6 c2_7 c2_8 c2_9 g2_0 g2_1 g2_2 g2_3 g2_4 g2_5 g2_6 g2_7 g2_8 g2_9 B2 st3 R2_0 R2_1 R2_2 hb3
  go_wp2_with fail
  refine bodyPost_ret (v := .tuple #[.agg #[.int .i64 o, .int .i64 (s + 1), .int .i64 0, .slice ra n1 rc, .slice sa n2 sc], .bool true]) (by simp [results, Try.results35, go_sem, *]) rfl ⟨_, _, rfl, ?_, ?_⟩
  · exact ((((((R3_2.out.setCell (.inl (by simp <;> omega)) _).setCell (.inl (by simp <;> omega)) _).setCell (.inl (by simp <;> omega)) _).setCell (.inl (by simp <;> omega)) _).setCell (.inl (by simp <;> omega)) _).wide (by omega) (by simp [World.setCell] <;> omega))
  · exact ((((B3.out.setCell (by simp <;> omega) _).setCell (by simp <;> omega) _).setCell (by simp <;> omega) _).setCell (by simp <;> omega) _).setCell (by simp <;> omega) _

theorem snext_no (o s ag : Int) (lo hi n m lo1 hi1 n1 lo2 hi2 n2 : Nat) (u v v1 v2 : Value) (K : List Lk) (T : List Ed) (K2 : List Lk) (T2 : List Ed) (w : World) (hK : K.length = n) (hT : T.length = m) (hK2 : K2.length = n1) (hT2 : T2.length = n2) (hr : LRow w lo hi u v n m (flat2 K) (flat T)) (hh : hi ≤ w.heap.size) (hr1 : Row 2 w lo1 hi1 v1 n1 (flat2 K2)) (hh1 : hi1 ≤ w.heap.size) (hr2 : Row 3 w lo2 hi2 v2 n2 (flat T2)) (hh2 : hi2 ≤ w.heap.size) (h12 : hi1 ≤ lo2) (hn1 : n1 ≤ 1048576) (hn2 : n2 ≤ 1048576) (hb : (lokB o s ag K T && lokB o (s + 1) 0 K2 T2) = false) :
    Calls Try.prog 35 #[.agg #[.int .i64 o, .int .i64 s, .int .i64 ag, u, v], v1, v2] w fun e w' => ∃ ru rv, e = .returned (.tuple #[.agg #[.int .i64 0, .int .i64 0, .int .i64 0, ru, rv], .bool false]) ∧ LRow w' w.heap.size w'.heap.size ru rv 0 0 [] [] ∧ Below w.heap.size w w' := by
  cases hv : lokB o s ag K T
  · exact snext_0 o s ag lo hi n m lo1 hi1 n1 lo2 hi2 n2 u v v1 v2 K T K2 T2 w hK hT hK2 hT2 hr hh hr1 hh1 hr2 hh2 h12 hn1 hn2 hv
  · rw [hv, Bool.true_and] at hb
    exact snext_1 o s ag lo hi n m lo1 hi1 n1 lo2 hi2 n2 u v v1 v2 K T K2 T2 w hK hT hK2 hT2 hr hh hr1 hh1 hr2 hh2 h12 hn1 hn2 hv hb
theorem snext_yes (o s ag : Int) (lo hi n m lo1 hi1 n1 lo2 hi2 n2 : Nat) (u v v1 v2 : Value) (K : List Lk) (T : List Ed) (K2 : List Lk) (T2 : List Ed) (w : World) (hK : K.length = n) (hT : T.length = m) (hK2 : K2.length = n1) (hT2 : T2.length = n2) (hr : LRow w lo hi u v n m (flat2 K) (flat T)) (hh : hi ≤ w.heap.size) (hr1 : Row 2 w lo1 hi1 v1 n1 (flat2 K2)) (hh1 : hi1 ≤ w.heap.size) (hr2 : Row 3 w lo2 hi2 v2 n2 (flat T2)) (hh2 : hi2 ≤ w.heap.size) (h12 : hi1 ≤ lo2) (hn1 : n1 ≤ 1048576) (hn2 : n2 ≤ 1048576) (hb : (lokB o s ag K T && lokB o (s + 1) 0 K2 T2) = true) :
    Calls Try.prog 35 #[.agg #[.int .i64 o, .int .i64 s, .int .i64 ag, u, v], v1, v2] w fun e w' => ∃ ru rv, e = .returned (.tuple #[.agg #[.int .i64 o, .int .i64 (s + 1), .int .i64 0, ru, rv], .bool true]) ∧ LRow w' w.heap.size w'.heap.size ru rv n1 n2 (flat2 K2) (flat T2) ∧ Below w.heap.size w w' := by
  rw [Bool.and_eq_true] at hb
  exact snext_2 o s ag lo hi n m lo1 hi1 n1 lo2 hi2 n2 u v v1 v2 K T K2 T2 w hK hT hK2 hT2 hr hh hr1 hh1 hr2 hh2 h12 hn1 hn2 hb.1 hb.2

end Go.Proofs.Ytcaoohcfoccedaa
