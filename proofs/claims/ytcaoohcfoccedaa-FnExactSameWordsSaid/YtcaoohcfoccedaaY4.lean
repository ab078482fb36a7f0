/- Whether two advertisements say the same, by both. -/
import Derived.Test.YtcaoohcfoccedaaY3
import Derived.Test.YtcaoohcfoccedaaX5
import Derived.Test.YtcaoohcfoccedaaGw
namespace Go.Proofs.Ytcaoohcfoccedaa
open Go.RowKit


theorem xdrew1 {w w1 : World} {q B : Nat} (h : Below B w w1) : Below B w (w1.drewN q) := ⟨h.os, h.tape, h.output, h.size, h.block⟩
theorem xdrew2 {w w1 : World} {q r : Nat} {B : Nat} (h : Below B w w1) : Below B w ((w1.drewN q).drewN r) := ⟨h.os, h.tape, h.output, h.size, h.block⟩

/-- Whether two advertisements say the same. -/
def sameB (o s ag o2 s2 ag2 : Int) (K : List Lk) (T : List Ed) (K2 : List Lk) (T2 : List Ed) : Bool := lokB o s ag K T && lokB o2 s2 ag2 K2 T2 && decide (o = o2) && decide (K = K2) && decide (T = T2)
theorem same_no {o s ag o2 s2 ag2 : Int} {K : List Lk} {T : List Ed} {K2 : List Lk} {T2 : List Ed} (h : lokB o s ag K T = false ∨ lokB o2 s2 ag2 K2 T2 = false ∨ o ≠ o2 ∨ K ≠ K2 ∨ T ≠ T2) : sameB o s ag o2 s2 ag2 K T K2 T2 = false := by
  unfold sameB
  rcases h with h | h | h | h | h
  · rw [h]; simp
  · rw [h]; simp
  · rw [decide_eq_false h]; simp
  · rw [decide_eq_false h]; simp
  · rw [decide_eq_false h]; simp

set_option linter.unusedVariables false in
set_option maxRecDepth 100000 in
set_option maxHeartbeats 4000000 in
theorem isame_0 (o s ag o2 s2 ag2 : Int) (lo hi n m lo2 hi2 n2 m2 : Nat) (u v u2 v2 : Value) (K : List Lk) (T : List Ed) (K2 : List Lk) (T2 : List Ed) (w : World) (hK : K.length = n) (hT : T.length = m) (hK2 : K2.length = n2) (hT2 : T2.length = m2) (hr : LRow w lo hi u v n m (flat2 K) (flat T)) (hr2 : LRow w lo2 hi2 u2 v2 n2 m2 (flat2 K2) (flat T2)) (hh : hi ≤ w.heap.size) (hh2 : hi2 ≤ w.heap.size) (hv : lokB o s ag K T = false) :
    Calls Try.prog 32 #[.agg #[.int .i64 o, .int .i64 s, .int .i64 ag, u, v], .agg #[.int .i64 o2, .int .i64 s2, .int .i64 ag2, u2, v2]] w fun e w' => e = .returned (.bool (sameB o s ag o2 s2 ag2 K T K2 T2)) ∧ Below w.heap.size w w' := by
  have Hn := Lib.hid (same_no (s2 := s2) (ag2 := ag2) (o2 := o2) (K2 := K2) (T2 := T2) (.inl hv))
  have Hv := Lib.hid hv
  clear hv
  have R0 := Lib.hid hr.fst
  have R1 := Lib.hid hr.snd
  have R2 := Lib.hid hr2.fst
  have R3 := Lib.hid hr2.snd
  have HK := Lib.hid hK
  have HT := Lib.hid hT
  have HK2 := Lib.hid hK2
  have HT2 := Lib.hid hT2
  obtain ⟨ad, cp, ae, cq, rfl, rfl⟩ := hr.slice
  obtain ⟨bd, dp, be, dq, rfl, rfl⟩ := hr2.slice
  clear hr hr2 hK hT hK2 hT2
  go_enter Try.func32, Try.ntmps32
  go_wp2_with fail
  go_at_call 14
  refine (ilok_any o s ag lo hi lo hi n m _ _ K T _ HK.out HT.out (R0.out.below (B := w.heap.size) (by go_grown) (by omega)) (R1.out.below (B := w.heap.size) (by go_grown) (by omega)) (by first | omega | (simp; omega)) (by first | omega | (simp; omega))).mono ?_
  rw [Hv.out]
  rintro e v1 ⟨rfl, hb1⟩
  have sz1 : w.heap.size + 2 ≤ v1.heap.size := by have hh := hb1.size; simp at hh; omega
  have st1 : Below w.heap.size w v1 := Below.trans (by go_grown) (hb1.mono (by simp <;> omega))
  have c1_0 : v1.cell? ⟨w.heap.size, 0, none⟩ = some (.int .i64 o) := by rw [(bcell hb1).1 _ _ (by simp <;> omega), old_box (by simp <;> omega)]; first | (rw [new_at (by simp)]; rfl) | simp
  have c1_1 : v1.cell? ⟨w.heap.size, 1, none⟩ = some (.int .i64 s) := by rw [(bcell hb1).1 _ _ (by simp <;> omega), old_box (by simp <;> omega)]; first | (rw [new_at (by simp)]; rfl) | simp
  have c1_2 : v1.cell? ⟨w.heap.size, 2, none⟩ = some (.int .i64 ag) := by rw [(bcell hb1).1 _ _ (by simp <;> omega), old_box (by simp <;> omega)]; first | (rw [new_at (by simp)]; rfl) | simp
  have c1_3 : v1.cell? ⟨w.heap.size, 3, none⟩ = some (.slice ad n cp) := by rw [(bcell hb1).1 _ _ (by simp <;> omega), old_box (by simp <;> omega)]; first | (rw [new_at (by simp)]; rfl) | simp
  have c1_4 : v1.cell? ⟨w.heap.size, 4, none⟩ = some (.slice ae m cq) := by rw [(bcell hb1).1 _ _ (by simp <;> omega), old_box (by simp <;> omega)]; first | (rw [new_at (by simp)]; rfl) | simp
  have c1_5 : v1.cell? ⟨w.heap.size + 1, 0, none⟩ = some (.int .i64 o2) := by rw [(bcell hb1).1 _ _ (by simp)]; first | (rw [new_at (by simp)]; rfl) | simp
  have c1_6 : v1.cell? ⟨w.heap.size + 1, 1, none⟩ = some (.int .i64 s2) := by rw [(bcell hb1).1 _ _ (by simp)]; first | (rw [new_at (by simp)]; rfl) | simp
  have c1_7 : v1.cell? ⟨w.heap.size + 1, 2, none⟩ = some (.int .i64 ag2) := by rw [(bcell hb1).1 _ _ (by simp)]; first | (rw [new_at (by simp)]; rfl) | simp
  have c1_8 : v1.cell? ⟨w.heap.size + 1, 3, none⟩ = some (.slice bd n2 dp) := by rw [(bcell hb1).1 _ _ (by simp)]; first | (rw [new_at (by simp)]; rfl) | simp
  have c1_9 : v1.cell? ⟨w.heap.size + 1, 4, none⟩ = some (.slice be m2 dq) := by rw [(bcell hb1).1 _ _ (by simp)]; first | (rw [new_at (by simp)]; rfl) | simp
  have B1 : Hid (Below w.heap.size w v1) := st1
  have R1_0 : Hid (Row 2 v1 (lo) (hi) (.slice ad n cp) n (flat2 K)) := R0.out.below st1 (by omega)
  have R1_1 : Hid (Row 3 v1 (lo) (hi) (.slice ae m cq) m (flat T)) := R1.out.below st1 (by omega)
  have R1_2 : Hid (Row 2 v1 (lo2) (hi2) (.slice bd n2 dp) n2 (flat2 K2)) := R2.out.below st1 (by omega)
  have R1_3 : Hid (Row 3 v1 (lo2) (hi2) (.slice be m2 dq) m2 (flat T2)) := R3.out.below st1 (by omega)
  have d1_0 : w.heap.size < v1.heap.size := by omega
  have e1_0 : w.heap.size ≠ v1.heap.size := by omega
  have d1_1 : w.heap.size + 1 < v1.heap.size := by omega
  have e1_1 : w.heap.size + 1 ≠ v1.heap.size := by omega
  clear st1 R0 R1 R2 R3 hb1
  go_wp2_with fail
  go_ret
  exact ⟨by rw [Hn.out]; rfl, B1.out⟩

set_option linter.unusedVariables false in
set_option maxRecDepth 100000 in
set_option maxHeartbeats 4000000 in
theorem isame_1 (o s ag o2 s2 ag2 : Int) (lo hi n m lo2 hi2 n2 m2 : Nat) (u v u2 v2 : Value) (K : List Lk) (T : List Ed) (K2 : List Lk) (T2 : List Ed) (w : World) (hK : K.length = n) (hT : T.length = m) (hK2 : K2.length = n2) (hT2 : T2.length = m2) (hr : LRow w lo hi u v n m (flat2 K) (flat T)) (hr2 : LRow w lo2 hi2 u2 v2 n2 m2 (flat2 K2) (flat T2)) (hh : hi ≤ w.heap.size) (hh2 : hi2 ≤ w.heap.size) (hv : lokB o s ag K T = true) (hv2 : lokB o2 s2 ag2 K2 T2 = false) :
    Calls Try.prog 32 #[.agg #[.int .i64 o, .int .i64 s, .int .i64 ag, u, v], .agg #[.int .i64 o2, .int .i64 s2, .int .i64 ag2, u2, v2]] w fun e w' => e = .returned (.bool (sameB o s ag o2 s2 ag2 K T K2 T2)) ∧ Below w.heap.size w w' := by
  have Hn := Lib.hid (same_no (s := s) (ag := ag) (o := o) (K := K) (T := T) (.inr (.inl hv2)))
  have Hv := Lib.hid hv
  have Hv2 := Lib.hid hv2
  clear hv hv2
  have R0 := Lib.hid hr.fst
  have R1 := Lib.hid hr.snd
  have R2 := Lib.hid hr2.fst
  have R3 := Lib.hid hr2.snd
  have HK := Lib.hid hK
  have HT := Lib.hid hT
  have HK2 := Lib.hid hK2
  have HT2 := Lib.hid hT2
  obtain ⟨ad, cp, ae, cq, rfl, rfl⟩ := hr.slice
  obtain ⟨bd, dp, be, dq, rfl, rfl⟩ := hr2.slice
  clear hr hr2 hK hT hK2 hT2
  go_enter Try.func32, Try.ntmps32
  go_wp2_with fail
  go_at_call 14
  refine (ilok_any o s ag lo hi lo hi n m _ _ K T _ HK.out HT.out (R0.out.below (B := w.heap.size) (by go_grown) (by omega)) (R1.out.below (B := w.heap.size) (by go_grown) (by omega)) (by first | omega | (simp; omega)) (by first | omega | (simp; omega))).mono ?_
  rw [Hv.out]
  rintro e v1 ⟨rfl, hb1⟩
  have sz1 : w.heap.size + 2 ≤ v1.heap.size := by have hh := hb1.size; simp at hh; omega
  have st1 : Below w.heap.size w v1 := Below.trans (by go_grown) (hb1.mono (by simp <;> omega))
  have c1_0 : v1.cell? ⟨w.heap.size, 0, none⟩ = some (.int .i64 o) := by rw [(bcell hb1).1 _ _ (by simp <;> omega), old_box (by simp <;> omega)]; first | (rw [new_at (by simp)]; rfl) | simp
  have c1_1 : v1.cell? ⟨w.heap.size, 1, none⟩ = some (.int .i64 s) := by rw [(bcell hb1).1 _ _ (by simp <;> omega), old_box (by simp <;> omega)]; first | (rw [new_at (by simp)]; rfl) | simp
  have c1_2 : v1.cell? ⟨w.heap.size, 2, none⟩ = some (.int .i64 ag) := by rw [(bcell hb1).1 _ _ (by simp <;> omega), old_box (by simp <;> omega)]; first | (rw [new_at (by simp)]; rfl) | simp
  have c1_3 : v1.cell? ⟨w.heap.size, 3, none⟩ = some (.slice ad n cp) := by rw [(bcell hb1).1 _ _ (by simp <;> omega), old_box (by simp <;> omega)]; first | (rw [new_at (by simp)]; rfl) | simp
  have c1_4 : v1.cell? ⟨w.heap.size, 4, none⟩ = some (.slice ae m cq) := by rw [(bcell hb1).1 _ _ (by simp <;> omega), old_box (by simp <;> omega)]; first | (rw [new_at (by simp)]; rfl) | simp
  have c1_5 : v1.cell? ⟨w.heap.size + 1, 0, none⟩ = some (.int .i64 o2) := by rw [(bcell hb1).1 _ _ (by simp)]; first | (rw [new_at (by simp)]; rfl) | simp
  have c1_6 : v1.cell? ⟨w.heap.size + 1, 1, none⟩ = some (.int .i64 s2) := by rw [(bcell hb1).1 _ _ (by simp)]; first | (rw [new_at (by simp)]; rfl) | simp
  have c1_7 : v1.cell? ⟨w.heap.size + 1, 2, none⟩ = some (.int .i64 ag2) := by rw [(bcell hb1).1 _ _ (by simp)]; first | (rw [new_at (by simp)]; rfl) | simp
  have c1_8 : v1.cell? ⟨w.heap.size + 1, 3, none⟩ = some (.slice bd n2 dp) := by rw [(bcell hb1).1 _ _ (by simp)]; first | (rw [new_at (by simp)]; rfl) | simp
  have c1_9 : v1.cell? ⟨w.heap.size + 1, 4, none⟩ = some (.slice be m2 dq) := by rw [(bcell hb1).1 _ _ (by simp)]; first | (rw [new_at (by simp)]; rfl) | simp
  have B1 : Hid (Below w.heap.size w v1) := st1
  have R1_0 : Hid (Row 2 v1 (lo) (hi) (.slice ad n cp) n (flat2 K)) := R0.out.below st1 (by omega)
  have R1_1 : Hid (Row 3 v1 (lo) (hi) (.slice ae m cq) m (flat T)) := R1.out.below st1 (by omega)
  have R1_2 : Hid (Row 2 v1 (lo2) (hi2) (.slice bd n2 dp) n2 (flat2 K2)) := R2.out.below st1 (by omega)
  have R1_3 : Hid (Row 3 v1 (lo2) (hi2) (.slice be m2 dq) m2 (flat T2)) := R3.out.below st1 (by omega)
  have d1_0 : w.heap.size < v1.heap.size := by omega
  have e1_0 : w.heap.size ≠ v1.heap.size := by omega
  have d1_1 : w.heap.size + 1 < v1.heap.size := by omega
  have e1_1 : w.heap.size + 1 ≠ v1.heap.size := by omega
  clear st1 R0 R1 R2 R3 hb1
  go_wp2_with fail
  go_at_call 14
  refine (ilok_any o2 s2 ag2 lo2 hi2 lo2 hi2 n2 m2 _ _ K2 T2 _ HK2.out HT2.out R1_2.out R1_3.out (by first | omega | (simp; omega)) (by first | omega | (simp; omega))).mono ?_
  rw [Hv2.out]
  rintro e v2 ⟨rfl, hb2⟩
  have sz2 : v1.heap.size ≤ v2.heap.size := hb2.size
  have st2 : Below v1.heap.size v1 v2 := hb2
  have c2_0 : v2.cell? ⟨w.heap.size, 0, none⟩ = some (.int .i64 o) := by rw [(bcell st2).1 _ _ (by omega)]; exact c1_0
  have c2_1 : v2.cell? ⟨w.heap.size, 1, none⟩ = some (.int .i64 s) := by rw [(bcell st2).1 _ _ (by omega)]; exact c1_1
  have c2_2 : v2.cell? ⟨w.heap.size, 2, none⟩ = some (.int .i64 ag) := by rw [(bcell st2).1 _ _ (by omega)]; exact c1_2
  have c2_3 : v2.cell? ⟨w.heap.size, 3, none⟩ = some (.slice ad n cp) := by rw [(bcell st2).1 _ _ (by omega)]; exact c1_3
  have c2_4 : v2.cell? ⟨w.heap.size, 4, none⟩ = some (.slice ae m cq) := by rw [(bcell st2).1 _ _ (by omega)]; exact c1_4
  have c2_5 : v2.cell? ⟨w.heap.size + 1, 0, none⟩ = some (.int .i64 o2) := by rw [(bcell st2).1 _ _ (by omega)]; exact c1_5
  have c2_6 : v2.cell? ⟨w.heap.size + 1, 1, none⟩ = some (.int .i64 s2) := by rw [(bcell st2).1 _ _ (by omega)]; exact c1_6
  have c2_7 : v2.cell? ⟨w.heap.size + 1, 2, none⟩ = some (.int .i64 ag2) := by rw [(bcell st2).1 _ _ (by omega)]; exact c1_7
  have c2_8 : v2.cell? ⟨w.heap.size + 1, 3, none⟩ = some (.slice bd n2 dp) := by rw [(bcell st2).1 _ _ (by omega)]; exact c1_8
  have c2_9 : v2.cell? ⟨w.heap.size + 1, 4, none⟩ = some (.slice be m2 dq) := by rw [(bcell st2).1 _ _ (by omega)]; exact c1_9
  have B2 : Hid (Below w.heap.size w v2) := B1.out.trans (st2.mono (by omega))
  have R2_0 : Hid (Row 2 v2 (lo) (hi) (.slice ad n cp) n (flat2 K)) := R1_0.out.below st2 (by omega)
  have R2_1 : Hid (Row 3 v2 (lo) (hi) (.slice ae m cq) m (flat T)) := R1_1.out.below st2 (by omega)
  have R2_2 : Hid (Row 2 v2 (lo2) (hi2) (.slice bd n2 dp) n2 (flat2 K2)) := R1_2.out.below st2 (by omega)
  have R2_3 : Hid (Row 3 v2 (lo2) (hi2) (.slice be m2 dq) m2 (flat T2)) := R1_3.out.below st2 (by omega)
  have d2_0 : w.heap.size < v2.heap.size := by omega
  have e2_0 : w.heap.size ≠ v2.heap.size := by omega
  have d2_1 : w.heap.size + 1 < v2.heap.size := by omega
  have e2_1 : w.heap.size + 1 ≠ v2.heap.size := by omega
  clear d1_0 e1_0 d1_1 e1_1 c1_0 c1_1 c1_2 c1_3 c1_4 c1_5 c1_6 c1_7 c1_8 c1_9 B1 st2 R1_0 R1_1 R1_2 R1_3 hb2
  go_wp2_with fail
  go_ret
  exact ⟨by rw [Hn.out]; rfl, B2.out⟩

set_option linter.unusedVariables false in
set_option maxRecDepth 100000 in
set_option maxHeartbeats 4000000 in
theorem isame_2 (o s ag o2 s2 ag2 : Int) (lo hi n m lo2 hi2 n2 m2 : Nat) (u v u2 v2 : Value) (K : List Lk) (T : List Ed) (K2 : List Lk) (T2 : List Ed) (w : World) (hK : K.length = n) (hT : T.length = m) (hK2 : K2.length = n2) (hT2 : T2.length = m2) (hr : LRow w lo hi u v n m (flat2 K) (flat T)) (hr2 : LRow w lo2 hi2 u2 v2 n2 m2 (flat2 K2) (flat T2)) (hh : hi ≤ w.heap.size) (hh2 : hi2 ≤ w.heap.size) (hv : lokB o s ag K T = true) (hv2 : lokB o2 s2 ag2 K2 T2 = true) (ho : o ≠ o2) :
    Calls Try.prog 32 #[.agg #[.int .i64 o, .int .i64 s, .int .i64 ag, u, v], .agg #[.int .i64 o2, .int .i64 s2, .int .i64 ag2, u2, v2]] w fun e w' => e = .returned (.bool (sameB o s ag o2 s2 ag2 K T K2 T2)) ∧ Below w.heap.size w w' := by
  have Hn := Lib.hid (same_no (s := s) (ag := ag) (s2 := s2) (ag2 := ag2) (K := K) (T := T) (K2 := K2) (T2 := T2) (.inr (.inr (.inl ho))))
  have f1 : (o == o2) = false := by simp [ho]
  have f2 : (o != o2) = true := by simp [ho]
  have Ho := Lib.hid ho
  clear ho
  have Hv := Lib.hid hv
  have Hv2 := Lib.hid hv2
  clear hv hv2
  have R0 := Lib.hid hr.fst
  have R1 := Lib.hid hr.snd
  have R2 := Lib.hid hr2.fst
  have R3 := Lib.hid hr2.snd
  have HK := Lib.hid hK
  have HT := Lib.hid hT
  have HK2 := Lib.hid hK2
  have HT2 := Lib.hid hT2
  obtain ⟨ad, cp, ae, cq, rfl, rfl⟩ := hr.slice
  obtain ⟨bd, dp, be, dq, rfl, rfl⟩ := hr2.slice
  clear hr hr2 hK hT hK2 hT2
  go_enter Try.func32, Try.ntmps32
  go_wp2_with fail
  go_at_call 14
  refine (ilok_any o s ag lo hi lo hi n m _ _ K T _ HK.out HT.out (R0.out.below (B := w.heap.size) (by go_grown) (by omega)) (R1.out.below (B := w.heap.size) (by go_grown) (by omega)) (by first | omega | (simp; omega)) (by first | omega | (simp; omega))).mono ?_
  rw [Hv.out]
  rintro e v1 ⟨rfl, hb1⟩
  have sz1 : w.heap.size + 2 ≤ v1.heap.size := by have hh := hb1.size; simp at hh; omega
  have st1 : Below w.heap.size w v1 := Below.trans (by go_grown) (hb1.mono (by simp <;> omega))
  have c1_0 : v1.cell? ⟨w.heap.size, 0, none⟩ = some (.int .i64 o) := by rw [(bcell hb1).1 _ _ (by simp <;> omega), old_box (by simp <;> omega)]; first | (rw [new_at (by simp)]; rfl) | simp
  have c1_1 : v1.cell? ⟨w.heap.size, 1, none⟩ = some (.int .i64 s) := by rw [(bcell hb1).1 _ _ (by simp <;> omega), old_box (by simp <;> omega)]; first | (rw [new_at (by simp)]; rfl) | simp
  have c1_2 : v1.cell? ⟨w.heap.size, 2, none⟩ = some (.int .i64 ag) := by rw [(bcell hb1).1 _ _ (by simp <;> omega), old_box (by simp <;> omega)]; first | (rw [new_at (by simp)]; rfl) | simp
  have c1_3 : v1.cell? ⟨w.heap.size, 3, none⟩ = some (.slice ad n cp) := by rw [(bcell hb1).1 _ _ (by simp <;> omega), old_box (by simp <;> omega)]; first | (rw [new_at (by simp)]; rfl) | simp
  have c1_4 : v1.cell? ⟨w.heap.size, 4, none⟩ = some (.slice ae m cq) := by rw [(bcell hb1).1 _ _ (by simp <;> omega), old_box (by simp <;> omega)]; first | (rw [new_at (by simp)]; rfl) | simp
  have c1_5 : v1.cell? ⟨w.heap.size + 1, 0, none⟩ = some (.int .i64 o2) := by rw [(bcell hb1).1 _ _ (by simp)]; first | (rw [new_at (by simp)]; rfl) | simp
  have c1_6 : v1.cell? ⟨w.heap.size + 1, 1, none⟩ = some (.int .i64 s2) := by rw [(bcell hb1).1 _ _ (by simp)]; first | (rw [new_at (by simp)]; rfl) | simp
  have c1_7 : v1.cell? ⟨w.heap.size + 1, 2, none⟩ = some (.int .i64 ag2) := by rw [(bcell hb1).1 _ _ (by simp)]; first | (rw [new_at (by simp)]; rfl) | simp
  have c1_8 : v1.cell? ⟨w.heap.size + 1, 3, none⟩ = some (.slice bd n2 dp) := by rw [(bcell hb1).1 _ _ (by simp)]; first | (rw [new_at (by simp)]; rfl) | simp
  have c1_9 : v1.cell? ⟨w.heap.size + 1, 4, none⟩ = some (.slice be m2 dq) := by rw [(bcell hb1).1 _ _ (by simp)]; first | (rw [new_at (by simp)]; rfl) | simp
  have B1 : Hid (Below w.heap.size w v1) := st1
  have R1_0 : Hid (Row 2 v1 (lo) (hi) (.slice ad n cp) n (flat2 K)) := R0.out.below st1 (by omega)
  have R1_1 : Hid (Row 3 v1 (lo) (hi) (.slice ae m cq) m (flat T)) := R1.out.below st1 (by omega)
  have R1_2 : Hid (Row 2 v1 (lo2) (hi2) (.slice bd n2 dp) n2 (flat2 K2)) := R2.out.below st1 (by omega)
  have R1_3 : Hid (Row 3 v1 (lo2) (hi2) (.slice be m2 dq) m2 (flat T2)) := R3.out.below st1 (by omega)
  have d1_0 : w.heap.size < v1.heap.size := by omega
  have e1_0 : w.heap.size ≠ v1.heap.size := by omega
  have d1_1 : w.heap.size + 1 < v1.heap.size := by omega
  have e1_1 : w.heap.size + 1 ≠ v1.heap.size := by omega
  clear st1 R0 R1 R2 R3 hb1
  go_wp2_with fail
  go_at_call 14
  refine (ilok_any o2 s2 ag2 lo2 hi2 lo2 hi2 n2 m2 _ _ K2 T2 _ HK2.out HT2.out R1_2.out R1_3.out (by first | omega | (simp; omega)) (by first | omega | (simp; omega))).mono ?_
  rw [Hv2.out]
  rintro e v2 ⟨rfl, hb2⟩
  have sz2 : v1.heap.size ≤ v2.heap.size := hb2.size
  have st2 : Below v1.heap.size v1 v2 := hb2
  have c2_0 : v2.cell? ⟨w.heap.size, 0, none⟩ = some (.int .i64 o) := by rw [(bcell st2).1 _ _ (by omega)]; exact c1_0
  have c2_1 : v2.cell? ⟨w.heap.size, 1, none⟩ = some (.int .i64 s) := by rw [(bcell st2).1 _ _ (by omega)]; exact c1_1
  have c2_2 : v2.cell? ⟨w.heap.size, 2, none⟩ = some (.int .i64 ag) := by rw [(bcell st2).1 _ _ (by omega)]; exact c1_2
  have c2_3 : v2.cell? ⟨w.heap.size, 3, none⟩ = some (.slice ad n cp) := by rw [(bcell st2).1 _ _ (by omega)]; exact c1_3
  have c2_4 : v2.cell? ⟨w.heap.size, 4, none⟩ = some (.slice ae m cq) := by rw [(bcell st2).1 _ _ (by omega)]; exact c1_4
  have c2_5 : v2.cell? ⟨w.heap.size + 1, 0, none⟩ = some (.int .i64 o2) := by rw [(bcell st2).1 _ _ (by omega)]; exact c1_5
  have c2_6 : v2.cell? ⟨w.heap.size + 1, 1, none⟩ = some (.int .i64 s2) := by rw [(bcell st2).1 _ _ (by omega)]; exact c1_6
  have c2_7 : v2.cell? ⟨w.heap.size + 1, 2, none⟩ = some (.int .i64 ag2) := by rw [(bcell st2).1 _ _ (by omega)]; exact c1_7
  have c2_8 : v2.cell? ⟨w.heap.size + 1, 3, none⟩ = some (.slice bd n2 dp) := by rw [(bcell st2).1 _ _ (by omega)]; exact c1_8
  have c2_9 : v2.cell? ⟨w.heap.size + 1, 4, none⟩ = some (.slice be m2 dq) := by rw [(bcell st2).1 _ _ (by omega)]; exact c1_9
  have B2 : Hid (Below w.heap.size w v2) := B1.out.trans (st2.mono (by omega))
  have R2_0 : Hid (Row 2 v2 (lo) (hi) (.slice ad n cp) n (flat2 K)) := R1_0.out.below st2 (by omega)
  have R2_1 : Hid (Row 3 v2 (lo) (hi) (.slice ae m cq) m (flat T)) := R1_1.out.below st2 (by omega)
  have R2_2 : Hid (Row 2 v2 (lo2) (hi2) (.slice bd n2 dp) n2 (flat2 K2)) := R1_2.out.below st2 (by omega)
  have R2_3 : Hid (Row 3 v2 (lo2) (hi2) (.slice be m2 dq) m2 (flat T2)) := R1_3.out.below st2 (by omega)
  have d2_0 : w.heap.size < v2.heap.size := by omega
  have e2_0 : w.heap.size ≠ v2.heap.size := by omega
  have d2_1 : w.heap.size + 1 < v2.heap.size := by omega
  have e2_1 : w.heap.size + 1 ≠ v2.heap.size := by omega
  clear d1_0 e1_0 d1_1 e1_1 c1_0 c1_1 c1_2 c1_3 c1_4 c1_5 c1_6 c1_7 c1_8 c1_9 B1 st2 R1_0 R1_1 R1_2 R1_3 hb2
  go_wp2_with fail
  go_ret
  exact ⟨by rw [Hn.out]; rfl, B2.out⟩

set_option linter.unusedVariables false in
set_option maxRecDepth 100000 in
set_option maxHeartbeats 4000000 in
theorem isame_3 (o s ag o2 s2 ag2 : Int) (lo hi n m lo2 hi2 n2 m2 : Nat) (u v u2 v2 : Value) (K : List Lk) (T : List Ed) (K2 : List Lk) (T2 : List Ed) (w : World) (hK : K.length = n) (hT : T.length = m) (hK2 : K2.length = n2) (hT2 : T2.length = m2) (hr : LRow w lo hi u v n m (flat2 K) (flat T)) (hr2 : LRow w lo2 hi2 u2 v2 n2 m2 (flat2 K2) (flat T2)) (hh : hi ≤ w.heap.size) (hh2 : hi2 ≤ w.heap.size) (hv : lokB o s ag K T = true) (hv2 : lokB o2 s2 ag2 K2 T2 = true) (ho : o = o2) (hne : decide (K = K2) = false) :
    Calls Try.prog 32 #[.agg #[.int .i64 o, .int .i64 s, .int .i64 ag, u, v], .agg #[.int .i64 o2, .int .i64 s2, .int .i64 ag2, u2, v2]] w fun e w' => e = .returned (.bool (sameB o s ag o2 s2 ag2 K T K2 T2)) ∧ Below w.heap.size w w' := by
  subst ho
  have Hn := Lib.hid (same_no (o := o) (o2 := o) (s := s) (ag := ag) (s2 := s2) (ag2 := ag2) (K := K) (T := T) (K2 := K2) (T2 := T2) (.inr (.inr (.inr (.inl (of_decide_eq_false hne))))))
  have Hv := Lib.hid hv
  have Hv2 := Lib.hid hv2
  clear hv hv2
  have R0 := Lib.hid hr.fst
  have R1 := Lib.hid hr.snd
  have R2 := Lib.hid hr2.fst
  have R3 := Lib.hid hr2.snd
  have HK := Lib.hid hK
  have HT := Lib.hid hT
  have HK2 := Lib.hid hK2
  have HT2 := Lib.hid hT2
  obtain ⟨ad, cp, ae, cq, rfl, rfl⟩ := hr.slice
  obtain ⟨bd, dp, be, dq, rfl, rfl⟩ := hr2.slice
  clear hr hr2 hK hT hK2 hT2
  go_enter Try.func32, Try.ntmps32
  go_wp2_with fail
  go_at_call 14
  refine (ilok_any o s ag lo hi lo hi n m _ _ K T _ HK.out HT.out (R0.out.below (B := w.heap.size) (by go_grown) (by omega)) (R1.out.below (B := w.heap.size) (by go_grown) (by omega)) (by first | omega | (simp; omega)) (by first | omega | (simp; omega))).mono ?_
  rw [Hv.out]
  rintro e v1 ⟨rfl, hb1⟩
  have sz1 : w.heap.size + 2 ≤ v1.heap.size := by have hh := hb1.size; simp at hh; omega
  have st1 : Below w.heap.size w v1 := Below.trans (by go_grown) (hb1.mono (by simp <;> omega))
  have c1_0 : v1.cell? ⟨w.heap.size, 0, none⟩ = some (.int .i64 o) := by rw [(bcell hb1).1 _ _ (by simp <;> omega), old_box (by simp <;> omega)]; first | (rw [new_at (by simp)]; rfl) | simp
  have c1_1 : v1.cell? ⟨w.heap.size, 1, none⟩ = some (.int .i64 s) := by rw [(bcell hb1).1 _ _ (by simp <;> omega), old_box (by simp <;> omega)]; first | (rw [new_at (by simp)]; rfl) | simp
  have c1_2 : v1.cell? ⟨w.heap.size, 2, none⟩ = some (.int .i64 ag) := by rw [(bcell hb1).1 _ _ (by simp <;> omega), old_box (by simp <;> omega)]; first | (rw [new_at (by simp)]; rfl) | simp
  have c1_3 : v1.cell? ⟨w.heap.size, 3, none⟩ = some (.slice ad n cp) := by rw [(bcell hb1).1 _ _ (by simp <;> omega), old_box (by simp <;> omega)]; first | (rw [new_at (by simp)]; rfl) | simp
  have c1_4 : v1.cell? ⟨w.heap.size, 4, none⟩ = some (.slice ae m cq) := by rw [(bcell hb1).1 _ _ (by simp <;> omega), old_box (by simp <;> omega)]; first | (rw [new_at (by simp)]; rfl) | simp
  have c1_5 : v1.cell? ⟨w.heap.size + 1, 0, none⟩ = some (.int .i64 o) := by rw [(bcell hb1).1 _ _ (by simp)]; first | (rw [new_at (by simp)]; rfl) | simp
  have c1_6 : v1.cell? ⟨w.heap.size + 1, 1, none⟩ = some (.int .i64 s2) := by rw [(bcell hb1).1 _ _ (by simp)]; first | (rw [new_at (by simp)]; rfl) | simp
  have c1_7 : v1.cell? ⟨w.heap.size + 1, 2, none⟩ = some (.int .i64 ag2) := by rw [(bcell hb1).1 _ _ (by simp)]; first | (rw [new_at (by simp)]; rfl) | simp
  have c1_8 : v1.cell? ⟨w.heap.size + 1, 3, none⟩ = some (.slice bd n2 dp) := by rw [(bcell hb1).1 _ _ (by simp)]; first | (rw [new_at (by simp)]; rfl) | simp
  have c1_9 : v1.cell? ⟨w.heap.size + 1, 4, none⟩ = some (.slice be m2 dq) := by rw [(bcell hb1).1 _ _ (by simp)]; first | (rw [new_at (by simp)]; rfl) | simp
  have B1 : Hid (Below w.heap.size w v1) := st1
  have R1_0 : Hid (Row 2 v1 (lo) (hi) (.slice ad n cp) n (flat2 K)) := R0.out.below st1 (by omega)
  have R1_1 : Hid (Row 3 v1 (lo) (hi) (.slice ae m cq) m (flat T)) := R1.out.below st1 (by omega)
  have R1_2 : Hid (Row 2 v1 (lo2) (hi2) (.slice bd n2 dp) n2 (flat2 K2)) := R2.out.below st1 (by omega)
  have R1_3 : Hid (Row 3 v1 (lo2) (hi2) (.slice be m2 dq) m2 (flat T2)) := R3.out.below st1 (by omega)
  have d1_0 : w.heap.size < v1.heap.size := by omega
  have e1_0 : w.heap.size ≠ v1.heap.size := by omega
  have d1_1 : w.heap.size + 1 < v1.heap.size := by omega
  have e1_1 : w.heap.size + 1 ≠ v1.heap.size := by omega
  clear st1 R0 R1 R2 R3 hb1
  go_wp2_with fail
  go_at_call 14
  refine (ilok_any o s2 ag2 lo2 hi2 lo2 hi2 n2 m2 _ _ K2 T2 _ HK2.out HT2.out R1_2.out R1_3.out (by first | omega | (simp; omega)) (by first | omega | (simp; omega))).mono ?_
  rw [Hv2.out]
  rintro e v2 ⟨rfl, hb2⟩
  have sz2 : v1.heap.size ≤ v2.heap.size := hb2.size
  have st2 : Below v1.heap.size v1 v2 := hb2
  have c2_0 : v2.cell? ⟨w.heap.size, 0, none⟩ = some (.int .i64 o) := by rw [(bcell st2).1 _ _ (by omega)]; exact c1_0
  have c2_1 : v2.cell? ⟨w.heap.size, 1, none⟩ = some (.int .i64 s) := by rw [(bcell st2).1 _ _ (by omega)]; exact c1_1
  have c2_2 : v2.cell? ⟨w.heap.size, 2, none⟩ = some (.int .i64 ag) := by rw [(bcell st2).1 _ _ (by omega)]; exact c1_2
  have c2_3 : v2.cell? ⟨w.heap.size, 3, none⟩ = some (.slice ad n cp) := by rw [(bcell st2).1 _ _ (by omega)]; exact c1_3
  have c2_4 : v2.cell? ⟨w.heap.size, 4, none⟩ = some (.slice ae m cq) := by rw [(bcell st2).1 _ _ (by omega)]; exact c1_4
  have c2_5 : v2.cell? ⟨w.heap.size + 1, 0, none⟩ = some (.int .i64 o) := by rw [(bcell st2).1 _ _ (by omega)]; exact c1_5
  have c2_6 : v2.cell? ⟨w.heap.size + 1, 1, none⟩ = some (.int .i64 s2) := by rw [(bcell st2).1 _ _ (by omega)]; exact c1_6
  have c2_7 : v2.cell? ⟨w.heap.size + 1, 2, none⟩ = some (.int .i64 ag2) := by rw [(bcell st2).1 _ _ (by omega)]; exact c1_7
  have c2_8 : v2.cell? ⟨w.heap.size + 1, 3, none⟩ = some (.slice bd n2 dp) := by rw [(bcell st2).1 _ _ (by omega)]; exact c1_8
  have c2_9 : v2.cell? ⟨w.heap.size + 1, 4, none⟩ = some (.slice be m2 dq) := by rw [(bcell st2).1 _ _ (by omega)]; exact c1_9
  have B2 : Hid (Below w.heap.size w v2) := B1.out.trans (st2.mono (by omega))
  have R2_0 : Hid (Row 2 v2 (lo) (hi) (.slice ad n cp) n (flat2 K)) := R1_0.out.below st2 (by omega)
  have R2_1 : Hid (Row 3 v2 (lo) (hi) (.slice ae m cq) m (flat T)) := R1_1.out.below st2 (by omega)
  have R2_2 : Hid (Row 2 v2 (lo2) (hi2) (.slice bd n2 dp) n2 (flat2 K2)) := R1_2.out.below st2 (by omega)
  have R2_3 : Hid (Row 3 v2 (lo2) (hi2) (.slice be m2 dq) m2 (flat T2)) := R1_3.out.below st2 (by omega)
  have d2_0 : w.heap.size < v2.heap.size := by omega
  have e2_0 : w.heap.size ≠ v2.heap.size := by omega
  have d2_1 : w.heap.size + 1 < v2.heap.size := by omega
  have e2_1 : w.heap.size + 1 ≠ v2.heap.size := by omega
  clear d1_0 e1_0 d1_1 e1_1 c1_0 c1_1 c1_2 c1_3 c1_4 c1_5 c1_6 c1_7 c1_8 c1_9 B1 st2 R1_0 R1_1 R1_2 R1_3 hb2
  go_wp2_with fail
  go_at_call 61
  refine (eqK_any lo hi n lo2 hi2 n2 _ _ K K2 _ HK.out HK2.out R2_0.out R2_2.out).mono ?_
  rw [hne]
  rintro e v3 ⟨rfl, hb3⟩
  have sz3 : v2.heap.size ≤ v3.heap.size := hb3.size
  have st3 : Below v2.heap.size v2 v3 := hb3
  have c3_0 : v3.cell? ⟨w.heap.size, 0, none⟩ = some (.int .i64 o) := by rw [(bcell st3).1 _ _ (by omega)]; exact c2_0
  have c3_1 : v3.cell? ⟨w.heap.size, 1, none⟩ = some (.int .i64 s) := by rw [(bcell st3).1 _ _ (by omega)]; exact c2_1
  have c3_2 : v3.cell? ⟨w.heap.size, 2, none⟩ = some (.int .i64 ag) := by rw [(bcell st3).1 _ _ (by omega)]; exact c2_2
  have c3_3 : v3.cell? ⟨w.heap.size, 3, none⟩ = some (.slice ad n cp) := by rw [(bcell st3).1 _ _ (by omega)]; exact c2_3
  have c3_4 : v3.cell? ⟨w.heap.size, 4, none⟩ = some (.slice ae m cq) := by rw [(bcell st3).1 _ _ (by omega)]; exact c2_4
  have c3_5 : v3.cell? ⟨w.heap.size + 1, 0, none⟩ = some (.int .i64 o) := by rw [(bcell st3).1 _ _ (by omega)]; exact c2_5
  have c3_6 : v3.cell? ⟨w.heap.size + 1, 1, none⟩ = some (.int .i64 s2) := by rw [(bcell st3).1 _ _ (by omega)]; exact c2_6
  have c3_7 : v3.cell? ⟨w.heap.size + 1, 2, none⟩ = some (.int .i64 ag2) := by rw [(bcell st3).1 _ _ (by omega)]; exact c2_7
  have c3_8 : v3.cell? ⟨w.heap.size + 1, 3, none⟩ = some (.slice bd n2 dp) := by rw [(bcell st3).1 _ _ (by omega)]; exact c2_8
  have c3_9 : v3.cell? ⟨w.heap.size + 1, 4, none⟩ = some (.slice be m2 dq) := by rw [(bcell st3).1 _ _ (by omega)]; exact c2_9
  have B3 : Hid (Below w.heap.size w v3) := B2.out.trans (st3.mono (by omega))
  have R3_0 : Hid (Row 2 v3 (lo) (hi) (.slice ad n cp) n (flat2 K)) := R2_0.out.below st3 (by omega)
  have R3_1 : Hid (Row 3 v3 (lo) (hi) (.slice ae m cq) m (flat T)) := R2_1.out.below st3 (by omega)
  have R3_2 : Hid (Row 2 v3 (lo2) (hi2) (.slice bd n2 dp) n2 (flat2 K2)) := R2_2.out.below st3 (by omega)
  have R3_3 : Hid (Row 3 v3 (lo2) (hi2) (.slice be m2 dq) m2 (flat T2)) := R2_3.out.below st3 (by omega)
  have d3_0 : w.heap.size < v3.heap.size := by omega
  have e3_0 : w.heap.size ≠ v3.heap.size := by omega
  have d3_1 : w.heap.size + 1 < v3.heap.size := by omega
  have e3_1 : w.heap.size + 1 ≠ v3.heap.size := by omega
  clear d2_0 e2_0 d2_1 e2_1 c2_0 c2_1 c2_2 c2_3 c2_4 c2_5 c2_6 c2_7 c2_8 c2_9 B2 st3 R2_0 R2_1 R2_2 R2_3 hb3
  go_wp2_with fail
  go_ret
  exact ⟨by rw [Hn.out]; rfl, B3.out⟩

set_option linter.unusedVariables false in
set_option maxRecDepth 100000 in
set_option maxHeartbeats 4000000 in
theorem isame_4 (o s ag o2 s2 ag2 : Int) (lo hi n m lo2 hi2 n2 m2 : Nat) (u v u2 v2 : Value) (K : List Lk) (T : List Ed) (K2 : List Lk) (T2 : List Ed) (w : World) (hK : K.length = n) (hT : T.length = m) (hK2 : K2.length = n2) (hT2 : T2.length = m2) (hr : LRow w lo hi u v n m (flat2 K) (flat T)) (hr2 : LRow w lo2 hi2 u2 v2 n2 m2 (flat2 K2) (flat T2)) (hh : hi ≤ w.heap.size) (hh2 : hi2 ≤ w.heap.size) (hv : lokB o s ag K T = true) (hv2 : lokB o2 s2 ag2 K2 T2 = true) (ho : o = o2) (hne : decide (K = K2) = true) :
    Calls Try.prog 32 #[.agg #[.int .i64 o, .int .i64 s, .int .i64 ag, u, v], .agg #[.int .i64 o2, .int .i64 s2, .int .i64 ag2, u2, v2]] w fun e w' => e = .returned (.bool (sameB o s ag o2 s2 ag2 K T K2 T2)) ∧ Below w.heap.size w w' := by
  subst ho
  have Hn : Hid (sameB o s ag o s2 ag2 K T K2 T2 = decide (T = T2)) := Lib.hid (by unfold sameB; rw [hv, hv2, hne]; simp)
  have Hv := Lib.hid hv
  have Hv2 := Lib.hid hv2
  clear hv hv2
  have R0 := Lib.hid hr.fst
  have R1 := Lib.hid hr.snd
  have R2 := Lib.hid hr2.fst
  have R3 := Lib.hid hr2.snd
  have HK := Lib.hid hK
  have HT := Lib.hid hT
  have HK2 := Lib.hid hK2
  have HT2 := Lib.hid hT2
  obtain ⟨ad, cp, ae, cq, rfl, rfl⟩ := hr.slice
  obtain ⟨bd, dp, be, dq, rfl, rfl⟩ := hr2.slice
  clear hr hr2 hK hT hK2 hT2
  go_enter Try.func32, Try.ntmps32
  go_wp2_with fail
  go_at_call 14
  refine (ilok_any o s ag lo hi lo hi n m _ _ K T _ HK.out HT.out (R0.out.below (B := w.heap.size) (by go_grown) (by omega)) (R1.out.below (B := w.heap.size) (by go_grown) (by omega)) (by first | omega | (simp; omega)) (by first | omega | (simp; omega))).mono ?_
  rw [Hv.out]
  rintro e v1 ⟨rfl, hb1⟩
  have sz1 : w.heap.size + 2 ≤ v1.heap.size := by have hh := hb1.size; simp at hh; omega
  have st1 : Below w.heap.size w v1 := Below.trans (by go_grown) (hb1.mono (by simp <;> omega))
  have c1_0 : v1.cell? ⟨w.heap.size, 0, none⟩ = some (.int .i64 o) := by rw [(bcell hb1).1 _ _ (by simp <;> omega), old_box (by simp <;> omega)]; first | (rw [new_at (by simp)]; rfl) | simp
  have c1_1 : v1.cell? ⟨w.heap.size, 1, none⟩ = some (.int .i64 s) := by rw [(bcell hb1).1 _ _ (by simp <;> omega), old_box (by simp <;> omega)]; first | (rw [new_at (by simp)]; rfl) | simp
  have c1_2 : v1.cell? ⟨w.heap.size, 2, none⟩ = some (.int .i64 ag) := by rw [(bcell hb1).1 _ _ (by simp <;> omega), old_box (by simp <;> omega)]; first | (rw [new_at (by simp)]; rfl) | simp
  have c1_3 : v1.cell? ⟨w.heap.size, 3, none⟩ = some (.slice ad n cp) := by rw [(bcell hb1).1 _ _ (by simp <;> omega), old_box (by simp <;> omega)]; first | (rw [new_at (by simp)]; rfl) | simp
  have c1_4 : v1.cell? ⟨w.heap.size, 4, none⟩ = some (.slice ae m cq) := by rw [(bcell hb1).1 _ _ (by simp <;> omega), old_box (by simp <;> omega)]; first | (rw [new_at (by simp)]; rfl) | simp
  have c1_5 : v1.cell? ⟨w.heap.size + 1, 0, none⟩ = some (.int .i64 o) := by rw [(bcell hb1).1 _ _ (by simp)]; first | (rw [new_at (by simp)]; rfl) | simp
  have c1_6 : v1.cell? ⟨w.heap.size + 1, 1, none⟩ = some (.int .i64 s2) := by rw [(bcell hb1).1 _ _ (by simp)]; first | (rw [new_at (by simp)]; rfl) | simp
  have c1_7 : v1.cell? ⟨w.heap.size + 1, 2, none⟩ = some (.int .i64 ag2) := by rw [(bcell hb1).1 _ _ (by simp)]; first | (rw [new_at (by simp)]; rfl) | simp
  have c1_8 : v1.cell? ⟨w.heap.size + 1, 3, none⟩ = some (.slice bd n2 dp) := by rw [(bcell hb1).1 _ _ (by simp)]; first | (rw [new_at (by simp)]; rfl) | simp
  have c1_9 : v1.cell? ⟨w.heap.size + 1, 4, none⟩ = some (.slice be m2 dq) := by rw [(bcell hb1).1 _ _ (by simp)]; first | (rw [new_at (by simp)]; rfl) | simp
  have B1 : Hid (Below w.heap.size w v1) := st1
  have R1_0 : Hid (Row 2 v1 (lo) (hi) (.slice ad n cp) n (flat2 K)) := R0.out.below st1 (by omega)
  have R1_1 : Hid (Row 3 v1 (lo) (hi) (.slice ae m cq) m (flat T)) := R1.out.below st1 (by omega)
  have R1_2 : Hid (Row 2 v1 (lo2) (hi2) (.slice bd n2 dp) n2 (flat2 K2)) := R2.out.below st1 (by omega)
  have R1_3 : Hid (Row 3 v1 (lo2) (hi2) (.slice be m2 dq) m2 (flat T2)) := R3.out.below st1 (by omega)
  have d1_0 : w.heap.size < v1.heap.size := by omega
  have e1_0 : w.heap.size ≠ v1.heap.size := by omega
  have d1_1 : w.heap.size + 1 < v1.heap.size := by omega
  have e1_1 : w.heap.size + 1 ≠ v1.heap.size := by omega
  clear st1 R0 R1 R2 R3 hb1
  go_wp2_with fail
  go_at_call 14
  refine (ilok_any o s2 ag2 lo2 hi2 lo2 hi2 n2 m2 _ _ K2 T2 _ HK2.out HT2.out R1_2.out R1_3.out (by first | omega | (simp; omega)) (by first | omega | (simp; omega))).mono ?_
  rw [Hv2.out]
  rintro e v2 ⟨rfl, hb2⟩
  have sz2 : v1.heap.size ≤ v2.heap.size := hb2.size
  have st2 : Below v1.heap.size v1 v2 := hb2
  have c2_0 : v2.cell? ⟨w.heap.size, 0, none⟩ = some (.int .i64 o) := by rw [(bcell st2).1 _ _ (by omega)]; exact c1_0
  have c2_1 : v2.cell? ⟨w.heap.size, 1, none⟩ = some (.int .i64 s) := by rw [(bcell st2).1 _ _ (by omega)]; exact c1_1
  have c2_2 : v2.cell? ⟨w.heap.size, 2, none⟩ = some (.int .i64 ag) := by rw [(bcell st2).1 _ _ (by omega)]; exact c1_2
  have c2_3 : v2.cell? ⟨w.heap.size, 3, none⟩ = some (.slice ad n cp) := by rw [(bcell st2).1 _ _ (by omega)]; exact c1_3
  have c2_4 : v2.cell? ⟨w.heap.size, 4, none⟩ = some (.slice ae m cq) := by rw [(bcell st2).1 _ _ (by omega)]; exact c1_4
  have c2_5 : v2.cell? ⟨w.heap.size + 1, 0, none⟩ = some (.int .i64 o) := by rw [(bcell st2).1 _ _ (by omega)]; exact c1_5
  have c2_6 : v2.cell? ⟨w.heap.size + 1, 1, none⟩ = some (.int .i64 s2) := by rw [(bcell st2).1 _ _ (by omega)]; exact c1_6
  have c2_7 : v2.cell? ⟨w.heap.size + 1, 2, none⟩ = some (.int .i64 ag2) := by rw [(bcell st2).1 _ _ (by omega)]; exact c1_7
  have c2_8 : v2.cell? ⟨w.heap.size + 1, 3, none⟩ = some (.slice bd n2 dp) := by rw [(bcell st2).1 _ _ (by omega)]; exact c1_8
  have c2_9 : v2.cell? ⟨w.heap.size + 1, 4, none⟩ = some (.slice be m2 dq) := by rw [(bcell st2).1 _ _ (by omega)]; exact c1_9
  have B2 : Hid (Below w.heap.size w v2) := B1.out.trans (st2.mono (by omega))
  have R2_0 : Hid (Row 2 v2 (lo) (hi) (.slice ad n cp) n (flat2 K)) := R1_0.out.below st2 (by omega)
  have R2_1 : Hid (Row 3 v2 (lo) (hi) (.slice ae m cq) m (flat T)) := R1_1.out.below st2 (by omega)
  have R2_2 : Hid (Row 2 v2 (lo2) (hi2) (.slice bd n2 dp) n2 (flat2 K2)) := R1_2.out.below st2 (by omega)
  have R2_3 : Hid (Row 3 v2 (lo2) (hi2) (.slice be m2 dq) m2 (flat T2)) := R1_3.out.below st2 (by omega)
  have d2_0 : w.heap.size < v2.heap.size := by omega
  have e2_0 : w.heap.size ≠ v2.heap.size := by omega
  have d2_1 : w.heap.size + 1 < v2.heap.size := by omega
  have e2_1 : w.heap.size + 1 ≠ v2.heap.size := by omega
  clear d1_0 e1_0 d1_1 e1_1 c1_0 c1_1 c1_2 c1_3 c1_4 c1_5 c1_6 c1_7 c1_8 c1_9 B1 st2 R1_0 R1_1 R1_2 R1_3 hb2
  go_wp2_with fail
  go_at_call 61
  refine (eqK_any lo hi n lo2 hi2 n2 _ _ K K2 _ HK.out HK2.out R2_0.out R2_2.out).mono ?_
  rw [hne]
  rintro e v3 ⟨rfl, hb3⟩
  have sz3 : v2.heap.size ≤ v3.heap.size := hb3.size
  have st3 : Below v2.heap.size v2 v3 := hb3
  have c3_0 : v3.cell? ⟨w.heap.size, 0, none⟩ = some (.int .i64 o) := by rw [(bcell st3).1 _ _ (by omega)]; exact c2_0
  have c3_1 : v3.cell? ⟨w.heap.size, 1, none⟩ = some (.int .i64 s) := by rw [(bcell st3).1 _ _ (by omega)]; exact c2_1
  have c3_2 : v3.cell? ⟨w.heap.size, 2, none⟩ = some (.int .i64 ag) := by rw [(bcell st3).1 _ _ (by omega)]; exact c2_2
  have c3_3 : v3.cell? ⟨w.heap.size, 3, none⟩ = some (.slice ad n cp) := by rw [(bcell st3).1 _ _ (by omega)]; exact c2_3
  have c3_4 : v3.cell? ⟨w.heap.size, 4, none⟩ = some (.slice ae m cq) := by rw [(bcell st3).1 _ _ (by omega)]; exact c2_4
  have c3_5 : v3.cell? ⟨w.heap.size + 1, 0, none⟩ = some (.int .i64 o) := by rw [(bcell st3).1 _ _ (by omega)]; exact c2_5
  have c3_6 : v3.cell? ⟨w.heap.size + 1, 1, none⟩ = some (.int .i64 s2) := by rw [(bcell st3).1 _ _ (by omega)]; exact c2_6
  have c3_7 : v3.cell? ⟨w.heap.size + 1, 2, none⟩ = some (.int .i64 ag2) := by rw [(bcell st3).1 _ _ (by omega)]; exact c2_7
  have c3_8 : v3.cell? ⟨w.heap.size + 1, 3, none⟩ = some (.slice bd n2 dp) := by rw [(bcell st3).1 _ _ (by omega)]; exact c2_8
  have c3_9 : v3.cell? ⟨w.heap.size + 1, 4, none⟩ = some (.slice be m2 dq) := by rw [(bcell st3).1 _ _ (by omega)]; exact c2_9
  have B3 : Hid (Below w.heap.size w v3) := B2.out.trans (st3.mono (by omega))
  have R3_0 : Hid (Row 2 v3 (lo) (hi) (.slice ad n cp) n (flat2 K)) := R2_0.out.below st3 (by omega)
  have R3_1 : Hid (Row 3 v3 (lo) (hi) (.slice ae m cq) m (flat T)) := R2_1.out.below st3 (by omega)
  have R3_2 : Hid (Row 2 v3 (lo2) (hi2) (.slice bd n2 dp) n2 (flat2 K2)) := R2_2.out.below st3 (by omega)
  have R3_3 : Hid (Row 3 v3 (lo2) (hi2) (.slice be m2 dq) m2 (flat T2)) := R2_3.out.below st3 (by omega)
  have d3_0 : w.heap.size < v3.heap.size := by omega
  have e3_0 : w.heap.size ≠ v3.heap.size := by omega
  have d3_1 : w.heap.size + 1 < v3.heap.size := by omega
  have e3_1 : w.heap.size + 1 ≠ v3.heap.size := by omega
  clear d2_0 e2_0 d2_1 e2_1 c2_0 c2_1 c2_2 c2_3 c2_4 c2_5 c2_6 c2_7 c2_8 c2_9 B2 st3 R2_0 R2_1 R2_2 R2_3 hb3
  go_wp2_with fail
  go_at_call 62
  refine (eqT_any lo hi m lo2 hi2 m2 _ _ T T2 _ HT.out HT2.out R3_1.out R3_3.out).mono ?_
  rintro e v4 ⟨rfl, hb4⟩
  have sz4 : v3.heap.size ≤ v4.heap.size := hb4.size
  have st4 : Below v3.heap.size v3 v4 := hb4
  have c4_0 : v4.cell? ⟨w.heap.size, 0, none⟩ = some (.int .i64 o) := by rw [(bcell st4).1 _ _ (by omega)]; exact c3_0
  have c4_1 : v4.cell? ⟨w.heap.size, 1, none⟩ = some (.int .i64 s) := by rw [(bcell st4).1 _ _ (by omega)]; exact c3_1
  have c4_2 : v4.cell? ⟨w.heap.size, 2, none⟩ = some (.int .i64 ag) := by rw [(bcell st4).1 _ _ (by omega)]; exact c3_2
  have c4_3 : v4.cell? ⟨w.heap.size, 3, none⟩ = some (.slice ad n cp) := by rw [(bcell st4).1 _ _ (by omega)]; exact c3_3
  have c4_4 : v4.cell? ⟨w.heap.size, 4, none⟩ = some (.slice ae m cq) := by rw [(bcell st4).1 _ _ (by omega)]; exact c3_4
  have c4_5 : v4.cell? ⟨w.heap.size + 1, 0, none⟩ = some (.int .i64 o) := by rw [(bcell st4).1 _ _ (by omega)]; exact c3_5
  have c4_6 : v4.cell? ⟨w.heap.size + 1, 1, none⟩ = some (.int .i64 s2) := by rw [(bcell st4).1 _ _ (by omega)]; exact c3_6
  have c4_7 : v4.cell? ⟨w.heap.size + 1, 2, none⟩ = some (.int .i64 ag2) := by rw [(bcell st4).1 _ _ (by omega)]; exact c3_7
  have c4_8 : v4.cell? ⟨w.heap.size + 1, 3, none⟩ = some (.slice bd n2 dp) := by rw [(bcell st4).1 _ _ (by omega)]; exact c3_8
  have c4_9 : v4.cell? ⟨w.heap.size + 1, 4, none⟩ = some (.slice be m2 dq) := by rw [(bcell st4).1 _ _ (by omega)]; exact c3_9
  have B4 : Hid (Below w.heap.size w v4) := B3.out.trans (st4.mono (by omega))
  have R4_0 : Hid (Row 2 v4 (lo) (hi) (.slice ad n cp) n (flat2 K)) := R3_0.out.below st4 (by omega)
  have R4_1 : Hid (Row 3 v4 (lo) (hi) (.slice ae m cq) m (flat T)) := R3_1.out.below st4 (by omega)
  have R4_2 : Hid (Row 2 v4 (lo2) (hi2) (.slice bd n2 dp) n2 (flat2 K2)) := R3_2.out.below st4 (by omega)
  have R4_3 : Hid (Row 3 v4 (lo2) (hi2) (.slice be m2 dq) m2 (flat T2)) := R3_3.out.below st4 (by omega)
  have d4_0 : w.heap.size < v4.heap.size := by omega
  have e4_0 : w.heap.size ≠ v4.heap.size := by omega
  have d4_1 : w.heap.size + 1 < v4.heap.size := by omega
  have e4_1 : w.heap.size + 1 ≠ v4.heap.size := by omega
  clear d3_0 e3_0 d3_1 e3_1 c3_0 c3_1 c3_2 c3_3 c3_4 c3_5 c3_6 c3_7 c3_8 c3_9 B3 st4 R3_0 R3_1 R3_2 R3_3 hb4
  go_wp2_with fail
  go_ret
  exact ⟨by rw [Hn.out]; rfl, B4.out⟩

theorem isame_any (o s ag o2 s2 ag2 : Int) (lo hi n m lo2 hi2 n2 m2 : Nat) (u v u2 v2 : Value) (K : List Lk) (T : List Ed) (K2 : List Lk) (T2 : List Ed) (w : World) (hK : K.length = n) (hT : T.length = m) (hK2 : K2.length = n2) (hT2 : T2.length = m2) (hr : LRow w lo hi u v n m (flat2 K) (flat T)) (hr2 : LRow w lo2 hi2 u2 v2 n2 m2 (flat2 K2) (flat T2)) (hh : hi ≤ w.heap.size) (hh2 : hi2 ≤ w.heap.size) :
    Calls Try.prog 32 #[.agg #[.int .i64 o, .int .i64 s, .int .i64 ag, u, v], .agg #[.int .i64 o2, .int .i64 s2, .int .i64 ag2, u2, v2]] w fun e w' => e = .returned (.bool (sameB o s ag o2 s2 ag2 K T K2 T2)) ∧ Below w.heap.size w w' := by
  cases hv : lokB o s ag K T
  · exact isame_0 o s ag o2 s2 ag2 lo hi n m lo2 hi2 n2 m2 u v u2 v2 K T K2 T2 w hK hT hK2 hT2 hr hr2 hh hh2 hv
  cases hv2 : lokB o2 s2 ag2 K2 T2
  · exact isame_1 o s ag o2 s2 ag2 lo hi n m lo2 hi2 n2 m2 u v u2 v2 K T K2 T2 w hK hT hK2 hT2 hr hr2 hh hh2 hv hv2
  by_cases ho : o = o2
  · cases hne : decide (K = K2)
    · exact isame_3 o s ag o2 s2 ag2 lo hi n m lo2 hi2 n2 m2 u v u2 v2 K T K2 T2 w hK hT hK2 hT2 hr hr2 hh hh2 hv hv2 ho hne
    · exact isame_4 o s ag o2 s2 ag2 lo hi n m lo2 hi2 n2 m2 u v u2 v2 K T K2 T2 w hK hT hK2 hT2 hr hr2 hh hh2 hv hv2 ho hne
  · exact isame_2 o s ag o2 s2 ag2 lo hi n m lo2 hi2 n2 m2 u v u2 v2 K T K2 T2 w hK hT hK2 hT2 hr hr2 hh hh2 hv hv2 ho

set_option linter.unusedVariables false in
set_option maxRecDepth 100000 in
set_option maxHeartbeats 4000000 in
theorem ssame_0 (o s ag o2 s2 ag2 : Int) (lo hi n m lo2 hi2 n2 m2 : Nat) (u v u2 v2 : Value) (K : List Lk) (T : List Ed) (K2 : List Lk) (T2 : List Ed) (w : World) (hK : K.length = n) (hT : T.length = m) (hK2 : K2.length = n2) (hT2 : T2.length = m2) (hr : LRow w lo hi u v n m (flat2 K) (flat T)) (hr2 : LRow w lo2 hi2 u2 v2 n2 m2 (flat2 K2) (flat T2)) (hh : hi ≤ w.heap.size) (hh2 : hi2 ≤ w.heap.size) (hv : lokB o s ag K T = false) :
    Calls Try.prog 31 #[.agg #[.int .i64 o, .int .i64 s, .int .i64 ag, u, v], .agg #[.int .i64 o2, .int .i64 s2, .int .i64 ag2, u2, v2]] w fun e w' => e = .returned (.bool (sameB o s ag o2 s2 ag2 K T K2 T2)) ∧ Below w.heap.size w w' := by
  have Hn := Lib.hid (same_no (s2 := s2) (ag2 := ag2) (o2 := o2) (K2 := K2) (T2 := T2) (.inl hv))
  have Hv := Lib.hid hv
  clear hv
  have R0 := Lib.hid hr.fst
  have R1 := Lib.hid hr.snd
  have R2 := Lib.hid hr2.fst
  have R3 := Lib.hid hr2.snd
  have HK := Lib.hid hK
  have HT := Lib.hid hT
  have HK2 := Lib.hid hK2
  have HT2 := Lib.hid hT2
  obtain ⟨ad, cp, ae, cq, rfl, rfl⟩ := hr.slice
  obtain ⟨bd, dp, be, dq, rfl, rfl⟩ := hr2.slice
  clear hr hr2 hK hT hK2 hT2
  go_enter Try.func31, Try.ntmps31
  go_wp2_with fail
  go_at_call 12
  refine (slok_any o s ag lo hi lo hi n m _ _ K T _ HK.out HT.out (R0.out.below (B := w.heap.size) (by go_grown) (by omega)) (R1.out.below (B := w.heap.size) (by go_grown) (by omega)) (by first | omega | (simp; omega)) (by first | omega | (simp; omega))).mono ?_
  rw [Hv.out]
  rintro e v1 ⟨rfl, hb1⟩
  have sz1 : w.heap.size + 2 ≤ v1.heap.size := by have hh := hb1.size; simp at hh; omega
  have st1 : Below w.heap.size w v1 := Below.trans (by go_grown) (hb1.mono (by simp <;> omega))
  have c1_0 : v1.cell? ⟨w.heap.size, 0, none⟩ = some (.int .i64 o) := by rw [(bcell hb1).1 _ _ (by simp <;> omega), old_box (by simp <;> omega)]; first | (rw [new_at (by simp)]; rfl) | simp
  have c1_1 : v1.cell? ⟨w.heap.size, 1, none⟩ = some (.int .i64 s) := by rw [(bcell hb1).1 _ _ (by simp <;> omega), old_box (by simp <;> omega)]; first | (rw [new_at (by simp)]; rfl) | simp
  have c1_2 : v1.cell? ⟨w.heap.size, 2, none⟩ = some (.int .i64 ag) := by rw [(bcell hb1).1 _ _ (by simp <;> omega), old_box (by simp <;> omega)]; first | (rw [new_at (by simp)]; rfl) | simp
  have c1_3 : v1.cell? ⟨w.heap.size, 3, none⟩ = some (.slice ad n cp) := by rw [(bcell hb1).1 _ _ (by simp <;> omega), old_box (by simp <;> omega)]; first | (rw [new_at (by simp)]; rfl) | simp
  have c1_4 : v1.cell? ⟨w.heap.size, 4, none⟩ = some (.slice ae m cq) := by rw [(bcell hb1).1 _ _ (by simp <;> omega), old_box (by simp <;> omega)]; first | (rw [new_at (by simp)]; rfl) | simp
  have c1_5 : v1.cell? ⟨w.heap.size + 1, 0, none⟩ = some (.int .i64 o2) := by rw [(bcell hb1).1 _ _ (by simp)]; first | (rw [new_at (by simp)]; rfl) | simp
  have c1_6 : v1.cell? ⟨w.heap.size + 1, 1, none⟩ = some (.int .i64 s2) := by rw [(bcell hb1).1 _ _ (by simp)]; first | (rw [new_at (by simp)]; rfl) | simp
  have c1_7 : v1.cell? ⟨w.heap.size + 1, 2, none⟩ = some (.int .i64 ag2) := by rw [(bcell hb1).1 _ _ (by simp)]; first | (rw [new_at (by simp)]; rfl) | simp
  have c1_8 : v1.cell? ⟨w.heap.size + 1, 3, none⟩ = some (.slice bd n2 dp) := by rw [(bcell hb1).1 _ _ (by simp)]; first | (rw [new_at (by simp)]; rfl) | simp
  have c1_9 : v1.cell? ⟨w.heap.size + 1, 4, none⟩ = some (.slice be m2 dq) := by rw [(bcell hb1).1 _ _ (by simp)]; first | (rw [new_at (by simp)]; rfl) | simp
  have B1 : Hid (Below w.heap.size w v1) := st1
  have R1_0 : Hid (Row 2 v1 (lo) (hi) (.slice ad n cp) n (flat2 K)) := R0.out.below st1 (by omega)
  have R1_1 : Hid (Row 3 v1 (lo) (hi) (.slice ae m cq) m (flat T)) := R1.out.below st1 (by omega)
  have R1_2 : Hid (Row 2 v1 (lo2) (hi2) (.slice bd n2 dp) n2 (flat2 K2)) := R2.out.below st1 (by omega)
  have R1_3 : Hid (Row 3 v1 (lo2) (hi2) (.slice be m2 dq) m2 (flat T2)) := R3.out.below st1 (by omega)
  have d1_0 : w.heap.size < v1.heap.size := by omega
  have e1_0 : w.heap.size ≠ v1.heap.size := by omega
  have d1_1 : w.heap.size + 1 < v1.heap.size := by omega
  have e1_1 : w.heap.size + 1 ≠ v1.heap.size := by omega
  clear st1 R0 R1 R2 R3 hb1
  go_wp2_with fail
  go_ret
  exact ⟨by rw [Hn.out]; rfl, B1.out⟩

set_option linter.unusedVariables false in
set_option maxRecDepth 100000 in
set_option maxHeartbeats 4000000 in
theorem ssame_1 (o s ag o2 s2 ag2 : Int) (lo hi n m lo2 hi2 n2 m2 : Nat) (u v u2 v2 : Value) (K : List Lk) (T : List Ed) (K2 : List Lk) (T2 : List Ed) (w : World) (hK : K.length = n) (hT : T.length = m) (hK2 : K2.length = n2) (hT2 : T2.length = m2) (hr : LRow w lo hi u v n m (flat2 K) (flat T)) (hr2 : LRow w lo2 hi2 u2 v2 n2 m2 (flat2 K2) (flat T2)) (hh : hi ≤ w.heap.size) (hh2 : hi2 ≤ w.heap.size) (hv : lokB o s ag K T = true) (hv2 : lokB o2 s2 ag2 K2 T2 = false) :
    Calls Try.prog 31 #[.agg #[.int .i64 o, .int .i64 s, .int .i64 ag, u, v], .agg #[.int .i64 o2, .int .i64 s2, .int .i64 ag2, u2, v2]] w fun e w' => e = .returned (.bool (sameB o s ag o2 s2 ag2 K T K2 T2)) ∧ Below w.heap.size w w' := by
  have Hn := Lib.hid (same_no (s := s) (ag := ag) (o := o) (K := K) (T := T) (.inr (.inl hv2)))
  have Hv := Lib.hid hv
  have Hv2 := Lib.hid hv2
  clear hv hv2
  have R0 := Lib.hid hr.fst
  have R1 := Lib.hid hr.snd
  have R2 := Lib.hid hr2.fst
  have R3 := Lib.hid hr2.snd
  have HK := Lib.hid hK
  have HT := Lib.hid hT
  have HK2 := Lib.hid hK2
  have HT2 := Lib.hid hT2
  obtain ⟨ad, cp, ae, cq, rfl, rfl⟩ := hr.slice
  obtain ⟨bd, dp, be, dq, rfl, rfl⟩ := hr2.slice
  clear hr hr2 hK hT hK2 hT2
  go_enter Try.func31, Try.ntmps31
  go_wp2_with fail
  go_at_call 12
  refine (slok_any o s ag lo hi lo hi n m _ _ K T _ HK.out HT.out (R0.out.below (B := w.heap.size) (by go_grown) (by omega)) (R1.out.below (B := w.heap.size) (by go_grown) (by omega)) (by first | omega | (simp; omega)) (by first | omega | (simp; omega))).mono ?_
  rw [Hv.out]
  rintro e v1 ⟨rfl, hb1⟩
  have sz1 : w.heap.size + 2 ≤ v1.heap.size := by have hh := hb1.size; simp at hh; omega
  have st1 : Below w.heap.size w v1 := Below.trans (by go_grown) (hb1.mono (by simp <;> omega))
  have c1_0 : v1.cell? ⟨w.heap.size, 0, none⟩ = some (.int .i64 o) := by rw [(bcell hb1).1 _ _ (by simp <;> omega), old_box (by simp <;> omega)]; first | (rw [new_at (by simp)]; rfl) | simp
  have c1_1 : v1.cell? ⟨w.heap.size, 1, none⟩ = some (.int .i64 s) := by rw [(bcell hb1).1 _ _ (by simp <;> omega), old_box (by simp <;> omega)]; first | (rw [new_at (by simp)]; rfl) | simp
  have c1_2 : v1.cell? ⟨w.heap.size, 2, none⟩ = some (.int .i64 ag) := by rw [(bcell hb1).1 _ _ (by simp <;> omega), old_box (by simp <;> omega)]; first | (rw [new_at (by simp)]; rfl) | simp
  have c1_3 : v1.cell? ⟨w.heap.size, 3, none⟩ = some (.slice ad n cp) := by rw [(bcell hb1).1 _ _ (by simp <;> omega), old_box (by simp <;> omega)]; first | (rw [new_at (by simp)]; rfl) | simp
  have c1_4 : v1.cell? ⟨w.heap.size, 4, none⟩ = some (.slice ae m cq) := by rw [(bcell hb1).1 _ _ (by simp <;> omega), old_box (by simp <;> omega)]; first | (rw [new_at (by simp)]; rfl) | simp
  have c1_5 : v1.cell? ⟨w.heap.size + 1, 0, none⟩ = some (.int .i64 o2) := by rw [(bcell hb1).1 _ _ (by simp)]; first | (rw [new_at (by simp)]; rfl) | simp
  have c1_6 : v1.cell? ⟨w.heap.size + 1, 1, none⟩ = some (.int .i64 s2) := by rw [(bcell hb1).1 _ _ (by simp)]; first | (rw [new_at (by simp)]; rfl) | simp
  have c1_7 : v1.cell? ⟨w.heap.size + 1, 2, none⟩ = some (.int .i64 ag2) := by rw [(bcell hb1).1 _ _ (by simp)]; first | (rw [new_at (by simp)]; rfl) | simp
  have c1_8 : v1.cell? ⟨w.heap.size + 1, 3, none⟩ = some (.slice bd n2 dp) := by rw [(bcell hb1).1 _ _ (by simp)]; first | (rw [new_at (by simp)]; rfl) | simp
  have c1_9 : v1.cell? ⟨w.heap.size + 1, 4, none⟩ = some (.slice be m2 dq) := by rw [(bcell hb1).1 _ _ (by simp)]; first | (rw [new_at (by simp)]; rfl) | simp
  have B1 : Hid (Below w.heap.size w v1) := st1
  have R1_0 : Hid (Row 2 v1 (lo) (hi) (.slice ad n cp) n (flat2 K)) := R0.out.below st1 (by omega)
  have R1_1 : Hid (Row 3 v1 (lo) (hi) (.slice ae m cq) m (flat T)) := R1.out.below st1 (by omega)
  have R1_2 : Hid (Row 2 v1 (lo2) (hi2) (.slice bd n2 dp) n2 (flat2 K2)) := R2.out.below st1 (by omega)
  have R1_3 : Hid (Row 3 v1 (lo2) (hi2) (.slice be m2 dq) m2 (flat T2)) := R3.out.below st1 (by omega)
  have d1_0 : w.heap.size < v1.heap.size := by omega
  have e1_0 : w.heap.size ≠ v1.heap.size := by omega
  have d1_1 : w.heap.size + 1 < v1.heap.size := by omega
  have e1_1 : w.heap.size + 1 ≠ v1.heap.size := by omega
  clear st1 R0 R1 R2 R3 hb1
  go_wp2_with fail
  go_at_call 12
  refine (slok_any o2 s2 ag2 lo2 hi2 lo2 hi2 n2 m2 _ _ K2 T2 _ HK2.out HT2.out R1_2.out R1_3.out (by first | omega | (simp; omega)) (by first | omega | (simp; omega))).mono ?_
  rw [Hv2.out]
  rintro e v2 ⟨rfl, hb2⟩
  have sz2 : v1.heap.size ≤ v2.heap.size := hb2.size
  have st2 : Below v1.heap.size v1 v2 := hb2
  have c2_0 : v2.cell? ⟨w.heap.size, 0, none⟩ = some (.int .i64 o) := by rw [(bcell st2).1 _ _ (by omega)]; exact c1_0
  have c2_1 : v2.cell? ⟨w.heap.size, 1, none⟩ = some (.int .i64 s) := by rw [(bcell st2).1 _ _ (by omega)]; exact c1_1
  have c2_2 : v2.cell? ⟨w.heap.size, 2, none⟩ = some (.int .i64 ag) := by rw [(bcell st2).1 _ _ (by omega)]; exact c1_2
  have c2_3 : v2.cell? ⟨w.heap.size, 3, none⟩ = some (.slice ad n cp) := by rw [(bcell st2).1 _ _ (by omega)]; exact c1_3
  have c2_4 : v2.cell? ⟨w.heap.size, 4, none⟩ = some (.slice ae m cq) := by rw [(bcell st2).1 _ _ (by omega)]; exact c1_4
  have c2_5 : v2.cell? ⟨w.heap.size + 1, 0, none⟩ = some (.int .i64 o2) := by rw [(bcell st2).1 _ _ (by omega)]; exact c1_5
  have c2_6 : v2.cell? ⟨w.heap.size + 1, 1, none⟩ = some (.int .i64 s2) := by rw [(bcell st2).1 _ _ (by omega)]; exact c1_6
  have c2_7 : v2.cell? ⟨w.heap.size + 1, 2, none⟩ = some (.int .i64 ag2) := by rw [(bcell st2).1 _ _ (by omega)]; exact c1_7
  have c2_8 : v2.cell? ⟨w.heap.size + 1, 3, none⟩ = some (.slice bd n2 dp) := by rw [(bcell st2).1 _ _ (by omega)]; exact c1_8
  have c2_9 : v2.cell? ⟨w.heap.size + 1, 4, none⟩ = some (.slice be m2 dq) := by rw [(bcell st2).1 _ _ (by omega)]; exact c1_9
  have B2 : Hid (Below w.heap.size w v2) := B1.out.trans (st2.mono (by omega))
  have R2_0 : Hid (Row 2 v2 (lo) (hi) (.slice ad n cp) n (flat2 K)) := R1_0.out.below st2 (by omega)
  have R2_1 : Hid (Row 3 v2 (lo) (hi) (.slice ae m cq) m (flat T)) := R1_1.out.below st2 (by omega)
  have R2_2 : Hid (Row 2 v2 (lo2) (hi2) (.slice bd n2 dp) n2 (flat2 K2)) := R1_2.out.below st2 (by omega)
  have R2_3 : Hid (Row 3 v2 (lo2) (hi2) (.slice be m2 dq) m2 (flat T2)) := R1_3.out.below st2 (by omega)
  have d2_0 : w.heap.size < v2.heap.size := by omega
  have e2_0 : w.heap.size ≠ v2.heap.size := by omega
  have d2_1 : w.heap.size + 1 < v2.heap.size := by omega
  have e2_1 : w.heap.size + 1 ≠ v2.heap.size := by omega
  clear d1_0 e1_0 d1_1 e1_1 c1_0 c1_1 c1_2 c1_3 c1_4 c1_5 c1_6 c1_7 c1_8 c1_9 B1 st2 R1_0 R1_1 R1_2 R1_3 hb2
  go_wp2_with fail
  go_ret
  exact ⟨by rw [Hn.out]; rfl, B2.out⟩

set_option linter.unusedVariables false in
set_option maxRecDepth 100000 in
set_option maxHeartbeats 4000000 in
theorem ssame_2 (o s ag o2 s2 ag2 : Int) (lo hi n m lo2 hi2 n2 m2 : Nat) (u v u2 v2 : Value) (K : List Lk) (T : List Ed) (K2 : List Lk) (T2 : List Ed) (w : World) (hK : K.length = n) (hT : T.length = m) (hK2 : K2.length = n2) (hT2 : T2.length = m2) (hr : LRow w lo hi u v n m (flat2 K) (flat T)) (hr2 : LRow w lo2 hi2 u2 v2 n2 m2 (flat2 K2) (flat T2)) (hh : hi ≤ w.heap.size) (hh2 : hi2 ≤ w.heap.size) (hv : lokB o s ag K T = true) (hv2 : lokB o2 s2 ag2 K2 T2 = true) (ho : o ≠ o2) :
    Calls Try.prog 31 #[.agg #[.int .i64 o, .int .i64 s, .int .i64 ag, u, v], .agg #[.int .i64 o2, .int .i64 s2, .int .i64 ag2, u2, v2]] w fun e w' => e = .returned (.bool (sameB o s ag o2 s2 ag2 K T K2 T2)) ∧ Below w.heap.size w w' := by
  have Hn := Lib.hid (same_no (s := s) (ag := ag) (s2 := s2) (ag2 := ag2) (K := K) (T := T) (K2 := K2) (T2 := T2) (.inr (.inr (.inl ho))))
  have f1 : (o == o2) = false := by simp [ho]
  have f2 : (o != o2) = true := by simp [ho]
  have Ho := Lib.hid ho
  clear ho
  have Hv := Lib.hid hv
  have Hv2 := Lib.hid hv2
  clear hv hv2
  have R0 := Lib.hid hr.fst
  have R1 := Lib.hid hr.snd
  have R2 := Lib.hid hr2.fst
  have R3 := Lib.hid hr2.snd
  have HK := Lib.hid hK
  have HT := Lib.hid hT
  have HK2 := Lib.hid hK2
  have HT2 := Lib.hid hT2
  obtain ⟨ad, cp, ae, cq, rfl, rfl⟩ := hr.slice
  obtain ⟨bd, dp, be, dq, rfl, rfl⟩ := hr2.slice
  clear hr hr2 hK hT hK2 hT2
  go_enter Try.func31, Try.ntmps31
  go_wp2_with fail
  go_at_call 12
  refine (slok_any o s ag lo hi lo hi n m _ _ K T _ HK.out HT.out (R0.out.below (B := w.heap.size) (by go_grown) (by omega)) (R1.out.below (B := w.heap.size) (by go_grown) (by omega)) (by first | omega | (simp; omega)) (by first | omega | (simp; omega))).mono ?_
  rw [Hv.out]
  rintro e v1 ⟨rfl, hb1⟩
  have sz1 : w.heap.size + 2 ≤ v1.heap.size := by have hh := hb1.size; simp at hh; omega
  have st1 : Below w.heap.size w v1 := Below.trans (by go_grown) (hb1.mono (by simp <;> omega))
  have c1_0 : v1.cell? ⟨w.heap.size, 0, none⟩ = some (.int .i64 o) := by rw [(bcell hb1).1 _ _ (by simp <;> omega), old_box (by simp <;> omega)]; first | (rw [new_at (by simp)]; rfl) | simp
  have c1_1 : v1.cell? ⟨w.heap.size, 1, none⟩ = some (.int .i64 s) := by rw [(bcell hb1).1 _ _ (by simp <;> omega), old_box (by simp <;> omega)]; first | (rw [new_at (by simp)]; rfl) | simp
  have c1_2 : v1.cell? ⟨w.heap.size, 2, none⟩ = some (.int .i64 ag) := by rw [(bcell hb1).1 _ _ (by simp <;> omega), old_box (by simp <;> omega)]; first | (rw [new_at (by simp)]; rfl) | simp
  have c1_3 : v1.cell? ⟨w.heap.size, 3, none⟩ = some (.slice ad n cp) := by rw [(bcell hb1).1 _ _ (by simp <;> omega), old_box (by simp <;> omega)]; first | (rw [new_at (by simp)]; rfl) | simp
  have c1_4 : v1.cell? ⟨w.heap.size, 4, none⟩ = some (.slice ae m cq) := by rw [(bcell hb1).1 _ _ (by simp <;> omega), old_box (by simp <;> omega)]; first | (rw [new_at (by simp)]; rfl) | simp
  have c1_5 : v1.cell? ⟨w.heap.size + 1, 0, none⟩ = some (.int .i64 o2) := by rw [(bcell hb1).1 _ _ (by simp)]; first | (rw [new_at (by simp)]; rfl) | simp
  have c1_6 : v1.cell? ⟨w.heap.size + 1, 1, none⟩ = some (.int .i64 s2) := by rw [(bcell hb1).1 _ _ (by simp)]; first | (rw [new_at (by simp)]; rfl) | simp
  have c1_7 : v1.cell? ⟨w.heap.size + 1, 2, none⟩ = some (.int .i64 ag2) := by rw [(bcell hb1).1 _ _ (by simp)]; first | (rw [new_at (by simp)]; rfl) | simp
  have c1_8 : v1.cell? ⟨w.heap.size + 1, 3, none⟩ = some (.slice bd n2 dp) := by rw [(bcell hb1).1 _ _ (by simp)]; first | (rw [new_at (by simp)]; rfl) | simp
  have c1_9 : v1.cell? ⟨w.heap.size + 1, 4, none⟩ = some (.slice be m2 dq) := by rw [(bcell hb1).1 _ _ (by simp)]; first | (rw [new_at (by simp)]; rfl) | simp
  have B1 : Hid (Below w.heap.size w v1) := st1
  have R1_0 : Hid (Row 2 v1 (lo) (hi) (.slice ad n cp) n (flat2 K)) := R0.out.below st1 (by omega)
  have R1_1 : Hid (Row 3 v1 (lo) (hi) (.slice ae m cq) m (flat T)) := R1.out.below st1 (by omega)
  have R1_2 : Hid (Row 2 v1 (lo2) (hi2) (.slice bd n2 dp) n2 (flat2 K2)) := R2.out.below st1 (by omega)
  have R1_3 : Hid (Row 3 v1 (lo2) (hi2) (.slice be m2 dq) m2 (flat T2)) := R3.out.below st1 (by omega)
  have d1_0 : w.heap.size < v1.heap.size := by omega
  have e1_0 : w.heap.size ≠ v1.heap.size := by omega
  have d1_1 : w.heap.size + 1 < v1.heap.size := by omega
  have e1_1 : w.heap.size + 1 ≠ v1.heap.size := by omega
  clear st1 R0 R1 R2 R3 hb1
  go_wp2_with fail
  go_at_call 12
  refine (slok_any o2 s2 ag2 lo2 hi2 lo2 hi2 n2 m2 _ _ K2 T2 _ HK2.out HT2.out R1_2.out R1_3.out (by first | omega | (simp; omega)) (by first | omega | (simp; omega))).mono ?_
  rw [Hv2.out]
  rintro e v2 ⟨rfl, hb2⟩
  have sz2 : v1.heap.size ≤ v2.heap.size := hb2.size
  have st2 : Below v1.heap.size v1 v2 := hb2
  have c2_0 : v2.cell? ⟨w.heap.size, 0, none⟩ = some (.int .i64 o) := by rw [(bcell st2).1 _ _ (by omega)]; exact c1_0
  have c2_1 : v2.cell? ⟨w.heap.size, 1, none⟩ = some (.int .i64 s) := by rw [(bcell st2).1 _ _ (by omega)]; exact c1_1
  have c2_2 : v2.cell? ⟨w.heap.size, 2, none⟩ = some (.int .i64 ag) := by rw [(bcell st2).1 _ _ (by omega)]; exact c1_2
  have c2_3 : v2.cell? ⟨w.heap.size, 3, none⟩ = some (.slice ad n cp) := by rw [(bcell st2).1 _ _ (by omega)]; exact c1_3
  have c2_4 : v2.cell? ⟨w.heap.size, 4, none⟩ = some (.slice ae m cq) := by rw [(bcell st2).1 _ _ (by omega)]; exact c1_4
  have c2_5 : v2.cell? ⟨w.heap.size + 1, 0, none⟩ = some (.int .i64 o2) := by rw [(bcell st2).1 _ _ (by omega)]; exact c1_5
  have c2_6 : v2.cell? ⟨w.heap.size + 1, 1, none⟩ = some (.int .i64 s2) := by rw [(bcell st2).1 _ _ (by omega)]; exact c1_6
  have c2_7 : v2.cell? ⟨w.heap.size + 1, 2, none⟩ = some (.int .i64 ag2) := by rw [(bcell st2).1 _ _ (by omega)]; exact c1_7
  have c2_8 : v2.cell? ⟨w.heap.size + 1, 3, none⟩ = some (.slice bd n2 dp) := by rw [(bcell st2).1 _ _ (by omega)]; exact c1_8
  have c2_9 : v2.cell? ⟨w.heap.size + 1, 4, none⟩ = some (.slice be m2 dq) := by rw [(bcell st2).1 _ _ (by omega)]; exact c1_9
  have B2 : Hid (Below w.heap.size w v2) := B1.out.trans (st2.mono (by omega))
  have R2_0 : Hid (Row 2 v2 (lo) (hi) (.slice ad n cp) n (flat2 K)) := R1_0.out.below st2 (by omega)
  have R2_1 : Hid (Row 3 v2 (lo) (hi) (.slice ae m cq) m (flat T)) := R1_1.out.below st2 (by omega)
  have R2_2 : Hid (Row 2 v2 (lo2) (hi2) (.slice bd n2 dp) n2 (flat2 K2)) := R1_2.out.below st2 (by omega)
  have R2_3 : Hid (Row 3 v2 (lo2) (hi2) (.slice be m2 dq) m2 (flat T2)) := R1_3.out.below st2 (by omega)
  have d2_0 : w.heap.size < v2.heap.size := by omega
  have e2_0 : w.heap.size ≠ v2.heap.size := by omega
  have d2_1 : w.heap.size + 1 < v2.heap.size := by omega
  have e2_1 : w.heap.size + 1 ≠ v2.heap.size := by omega
  clear d1_0 e1_0 d1_1 e1_1 c1_0 c1_1 c1_2 c1_3 c1_4 c1_5 c1_6 c1_7 c1_8 c1_9 B1 st2 R1_0 R1_1 R1_2 R1_3 hb2
  go_wp2_with fail
  go_ret
  exact ⟨by rw [Hn.out]; rfl, B2.out⟩

set_option linter.unusedVariables false in
set_option maxRecDepth 100000 in
set_option maxHeartbeats 4000000 in
theorem ssame_3 (o s ag o2 s2 ag2 : Int) (lo hi n m lo2 hi2 n2 m2 : Nat) (u v u2 v2 : Value) (K : List Lk) (T : List Ed) (K2 : List Lk) (T2 : List Ed) (w : World) (hK : K.length = n) (hT : T.length = m) (hK2 : K2.length = n2) (hT2 : T2.length = m2) (hr : LRow w lo hi u v n m (flat2 K) (flat T)) (hr2 : LRow w lo2 hi2 u2 v2 n2 m2 (flat2 K2) (flat T2)) (hh : hi ≤ w.heap.size) (hh2 : hi2 ≤ w.heap.size) (hv : lokB o s ag K T = true) (hv2 : lokB o2 s2 ag2 K2 T2 = true) (ho : o = o2) (hn : n ≠ n2) :
    Calls Try.prog 31 #[.agg #[.int .i64 o, .int .i64 s, .int .i64 ag, u, v], .agg #[.int .i64 o2, .int .i64 s2, .int .i64 ag2, u2, v2]] w fun e w' => e = .returned (.bool (sameB o s ag o2 s2 ag2 K T K2 T2)) ∧ Below w.heap.size w w' := by
  subst ho
  have Hn := Lib.hid (same_no (o := o) (o2 := o) (s := s) (ag := ag) (s2 := s2) (ag2 := ag2) (K := K) (T := T) (K2 := K2) (T2 := T2) (.inr (.inr (.inr (.inl (fun e => hn (by rw [← hK, ← hK2, e])))))))
  have f1 : ((n : Int) == (n2 : Int)) = false := by simp; omega
  have f2 : ((n : Int) != (n2 : Int)) = true := by simp; omega
  have Hnn := Lib.hid hn
  clear hn
  have Hv := Lib.hid hv
  have Hv2 := Lib.hid hv2
  clear hv hv2
  have R0 := Lib.hid hr.fst
  have R1 := Lib.hid hr.snd
  have R2 := Lib.hid hr2.fst
  have R3 := Lib.hid hr2.snd
  have HK := Lib.hid hK
  have HT := Lib.hid hT
  have HK2 := Lib.hid hK2
  have HT2 := Lib.hid hT2
  obtain ⟨ad, cp, ae, cq, rfl, rfl⟩ := hr.slice
  obtain ⟨bd, dp, be, dq, rfl, rfl⟩ := hr2.slice
  clear hr hr2 hK hT hK2 hT2
  go_enter Try.func31, Try.ntmps31
  go_wp2_with fail
  go_at_call 12
  refine (slok_any o s ag lo hi lo hi n m _ _ K T _ HK.out HT.out (R0.out.below (B := w.heap.size) (by go_grown) (by omega)) (R1.out.below (B := w.heap.size) (by go_grown) (by omega)) (by first | omega | (simp; omega)) (by first | omega | (simp; omega))).mono ?_
  rw [Hv.out]
  rintro e v1 ⟨rfl, hb1⟩
  have sz1 : w.heap.size + 2 ≤ v1.heap.size := by have hh := hb1.size; simp at hh; omega
  have st1 : Below w.heap.size w v1 := Below.trans (by go_grown) (hb1.mono (by simp <;> omega))
  have c1_0 : v1.cell? ⟨w.heap.size, 0, none⟩ = some (.int .i64 o) := by rw [(bcell hb1).1 _ _ (by simp <;> omega), old_box (by simp <;> omega)]; first | (rw [new_at (by simp)]; rfl) | simp
  have c1_1 : v1.cell? ⟨w.heap.size, 1, none⟩ = some (.int .i64 s) := by rw [(bcell hb1).1 _ _ (by simp <;> omega), old_box (by simp <;> omega)]; first | (rw [new_at (by simp)]; rfl) | simp
  have c1_2 : v1.cell? ⟨w.heap.size, 2, none⟩ = some (.int .i64 ag) := by rw [(bcell hb1).1 _ _ (by simp <;> omega), old_box (by simp <;> omega)]; first | (rw [new_at (by simp)]; rfl) | simp
  have c1_3 : v1.cell? ⟨w.heap.size, 3, none⟩ = some (.slice ad n cp) := by rw [(bcell hb1).1 _ _ (by simp <;> omega), old_box (by simp <;> omega)]; first | (rw [new_at (by simp)]; rfl) | simp
  have c1_4 : v1.cell? ⟨w.heap.size, 4, none⟩ = some (.slice ae m cq) := by rw [(bcell hb1).1 _ _ (by simp <;> omega), old_box (by simp <;> omega)]; first | (rw [new_at (by simp)]; rfl) | simp
  have c1_5 : v1.cell? ⟨w.heap.size + 1, 0, none⟩ = some (.int .i64 o) := by rw [(bcell hb1).1 _ _ (by simp)]; first | (rw [new_at (by simp)]; rfl) | simp
  have c1_6 : v1.cell? ⟨w.heap.size + 1, 1, none⟩ = some (.int .i64 s2) := by rw [(bcell hb1).1 _ _ (by simp)]; first | (rw [new_at (by simp)]; rfl) | simp
  have c1_7 : v1.cell? ⟨w.heap.size + 1, 2, none⟩ = some (.int .i64 ag2) := by rw [(bcell hb1).1 _ _ (by simp)]; first | (rw [new_at (by simp)]; rfl) | simp
  have c1_8 : v1.cell? ⟨w.heap.size + 1, 3, none⟩ = some (.slice bd n2 dp) := by rw [(bcell hb1).1 _ _ (by simp)]; first | (rw [new_at (by simp)]; rfl) | simp
  have c1_9 : v1.cell? ⟨w.heap.size + 1, 4, none⟩ = some (.slice be m2 dq) := by rw [(bcell hb1).1 _ _ (by simp)]; first | (rw [new_at (by simp)]; rfl) | simp
  have B1 : Hid (Below w.heap.size w v1) := st1
  have R1_0 : Hid (Row 2 v1 (lo) (hi) (.slice ad n cp) n (flat2 K)) := R0.out.below st1 (by omega)
  have R1_1 : Hid (Row 3 v1 (lo) (hi) (.slice ae m cq) m (flat T)) := R1.out.below st1 (by omega)
  have R1_2 : Hid (Row 2 v1 (lo2) (hi2) (.slice bd n2 dp) n2 (flat2 K2)) := R2.out.below st1 (by omega)
  have R1_3 : Hid (Row 3 v1 (lo2) (hi2) (.slice be m2 dq) m2 (flat T2)) := R3.out.below st1 (by omega)
  have d1_0 : w.heap.size < v1.heap.size := by omega
  have e1_0 : w.heap.size ≠ v1.heap.size := by omega
  have d1_1 : w.heap.size + 1 < v1.heap.size := by omega
  have e1_1 : w.heap.size + 1 ≠ v1.heap.size := by omega
  clear st1 R0 R1 R2 R3 hb1
  go_wp2_with fail
  go_at_call 12
  refine (slok_any o s2 ag2 lo2 hi2 lo2 hi2 n2 m2 _ _ K2 T2 _ HK2.out HT2.out R1_2.out R1_3.out (by first | omega | (simp; omega)) (by first | omega | (simp; omega))).mono ?_
  rw [Hv2.out]
  rintro e v2 ⟨rfl, hb2⟩
  have sz2 : v1.heap.size ≤ v2.heap.size := hb2.size
  have st2 : Below v1.heap.size v1 v2 := hb2
  have c2_0 : v2.cell? ⟨w.heap.size, 0, none⟩ = some (.int .i64 o) := by rw [(bcell st2).1 _ _ (by omega)]; exact c1_0
  have c2_1 : v2.cell? ⟨w.heap.size, 1, none⟩ = some (.int .i64 s) := by rw [(bcell st2).1 _ _ (by omega)]; exact c1_1
  have c2_2 : v2.cell? ⟨w.heap.size, 2, none⟩ = some (.int .i64 ag) := by rw [(bcell st2).1 _ _ (by omega)]; exact c1_2
  have c2_3 : v2.cell? ⟨w.heap.size, 3, none⟩ = some (.slice ad n cp) := by rw [(bcell st2).1 _ _ (by omega)]; exact c1_3
  have c2_4 : v2.cell? ⟨w.heap.size, 4, none⟩ = some (.slice ae m cq) := by rw [(bcell st2).1 _ _ (by omega)]; exact c1_4
  have c2_5 : v2.cell? ⟨w.heap.size + 1, 0, none⟩ = some (.int .i64 o) := by rw [(bcell st2).1 _ _ (by omega)]; exact c1_5
  have c2_6 : v2.cell? ⟨w.heap.size + 1, 1, none⟩ = some (.int .i64 s2) := by rw [(bcell st2).1 _ _ (by omega)]; exact c1_6
  have c2_7 : v2.cell? ⟨w.heap.size + 1, 2, none⟩ = some (.int .i64 ag2) := by rw [(bcell st2).1 _ _ (by omega)]; exact c1_7
  have c2_8 : v2.cell? ⟨w.heap.size + 1, 3, none⟩ = some (.slice bd n2 dp) := by rw [(bcell st2).1 _ _ (by omega)]; exact c1_8
  have c2_9 : v2.cell? ⟨w.heap.size + 1, 4, none⟩ = some (.slice be m2 dq) := by rw [(bcell st2).1 _ _ (by omega)]; exact c1_9
  have B2 : Hid (Below w.heap.size w v2) := B1.out.trans (st2.mono (by omega))
  have R2_0 : Hid (Row 2 v2 (lo) (hi) (.slice ad n cp) n (flat2 K)) := R1_0.out.below st2 (by omega)
  have R2_1 : Hid (Row 3 v2 (lo) (hi) (.slice ae m cq) m (flat T)) := R1_1.out.below st2 (by omega)
  have R2_2 : Hid (Row 2 v2 (lo2) (hi2) (.slice bd n2 dp) n2 (flat2 K2)) := R1_2.out.below st2 (by omega)
  have R2_3 : Hid (Row 3 v2 (lo2) (hi2) (.slice be m2 dq) m2 (flat T2)) := R1_3.out.below st2 (by omega)
  have d2_0 : w.heap.size < v2.heap.size := by omega
  have e2_0 : w.heap.size ≠ v2.heap.size := by omega
  have d2_1 : w.heap.size + 1 < v2.heap.size := by omega
  have e2_1 : w.heap.size + 1 ≠ v2.heap.size := by omega
  clear d1_0 e1_0 d1_1 e1_1 c1_0 c1_1 c1_2 c1_3 c1_4 c1_5 c1_6 c1_7 c1_8 c1_9 B1 st2 R1_0 R1_1 R1_2 R1_3 hb2
  go_wp2_with fail
  go_ret
  exact ⟨by rw [Hn.out]; rfl, B2.out⟩

set_option linter.unusedVariables false in
set_option maxRecDepth 100000 in
set_option maxHeartbeats 4000000 in
theorem ssame_4 (o s ag o2 s2 ag2 : Int) (lo hi n m lo2 hi2 n2 m2 : Nat) (u v u2 v2 : Value) (K : List Lk) (T : List Ed) (K2 : List Lk) (T2 : List Ed) (w : World) (hK : K.length = n) (hT : T.length = m) (hK2 : K2.length = n2) (hT2 : T2.length = m2) (hr : LRow w lo hi u v n m (flat2 K) (flat T)) (hr2 : LRow w lo2 hi2 u2 v2 n2 m2 (flat2 K2) (flat T2)) (hh : hi ≤ w.heap.size) (hh2 : hi2 ≤ w.heap.size) (hv : lokB o s ag K T = true) (hv2 : lokB o2 s2 ag2 K2 T2 = true) (ho : o = o2) (hn : n = n2) (hm : m ≠ m2) :
    Calls Try.prog 31 #[.agg #[.int .i64 o, .int .i64 s, .int .i64 ag, u, v], .agg #[.int .i64 o2, .int .i64 s2, .int .i64 ag2, u2, v2]] w fun e w' => e = .returned (.bool (sameB o s ag o2 s2 ag2 K T K2 T2)) ∧ Below w.heap.size w w' := by
  subst ho
  subst hn
  have Hn := Lib.hid (same_no (o := o) (o2 := o) (s := s) (ag := ag) (s2 := s2) (ag2 := ag2) (K := K) (T := T) (K2 := K2) (T2 := T2) (.inr (.inr (.inr (.inr (fun e => hm (by rw [← hT, ← hT2, e])))))))
  have f1 : ((m : Int) == (m2 : Int)) = false := by simp; omega
  have f2 : ((m : Int) != (m2 : Int)) = true := by simp; omega
  have Hnn := Lib.hid hm
  clear hm
  have Hv := Lib.hid hv
  have Hv2 := Lib.hid hv2
  clear hv hv2
  have R0 := Lib.hid hr.fst
  have R1 := Lib.hid hr.snd
  have R2 := Lib.hid hr2.fst
  have R3 := Lib.hid hr2.snd
  have HK := Lib.hid hK
  have HT := Lib.hid hT
  have HK2 := Lib.hid hK2
  have HT2 := Lib.hid hT2
  obtain ⟨ad, cp, ae, cq, rfl, rfl⟩ := hr.slice
  obtain ⟨bd, dp, be, dq, rfl, rfl⟩ := hr2.slice
  clear hr hr2 hK hT hK2 hT2
  go_enter Try.func31, Try.ntmps31
  go_wp2_with fail
  go_at_call 12
  refine (slok_any o s ag lo hi lo hi n m _ _ K T _ HK.out HT.out (R0.out.below (B := w.heap.size) (by go_grown) (by omega)) (R1.out.below (B := w.heap.size) (by go_grown) (by omega)) (by first | omega | (simp; omega)) (by first | omega | (simp; omega))).mono ?_
  rw [Hv.out]
  rintro e v1 ⟨rfl, hb1⟩
  have sz1 : w.heap.size + 2 ≤ v1.heap.size := by have hh := hb1.size; simp at hh; omega
  have st1 : Below w.heap.size w v1 := Below.trans (by go_grown) (hb1.mono (by simp <;> omega))
  have c1_0 : v1.cell? ⟨w.heap.size, 0, none⟩ = some (.int .i64 o) := by rw [(bcell hb1).1 _ _ (by simp <;> omega), old_box (by simp <;> omega)]; first | (rw [new_at (by simp)]; rfl) | simp
  have c1_1 : v1.cell? ⟨w.heap.size, 1, none⟩ = some (.int .i64 s) := by rw [(bcell hb1).1 _ _ (by simp <;> omega), old_box (by simp <;> omega)]; first | (rw [new_at (by simp)]; rfl) | simp
  have c1_2 : v1.cell? ⟨w.heap.size, 2, none⟩ = some (.int .i64 ag) := by rw [(bcell hb1).1 _ _ (by simp <;> omega), old_box (by simp <;> omega)]; first | (rw [new_at (by simp)]; rfl) | simp
  have c1_3 : v1.cell? ⟨w.heap.size, 3, none⟩ = some (.slice ad n cp) := by rw [(bcell hb1).1 _ _ (by simp <;> omega), old_box (by simp <;> omega)]; first | (rw [new_at (by simp)]; rfl) | simp
  have c1_4 : v1.cell? ⟨w.heap.size, 4, none⟩ = some (.slice ae m cq) := by rw [(bcell hb1).1 _ _ (by simp <;> omega), old_box (by simp <;> omega)]; first | (rw [new_at (by simp)]; rfl) | simp
  have c1_5 : v1.cell? ⟨w.heap.size + 1, 0, none⟩ = some (.int .i64 o) := by rw [(bcell hb1).1 _ _ (by simp)]; first | (rw [new_at (by simp)]; rfl) | simp
  have c1_6 : v1.cell? ⟨w.heap.size + 1, 1, none⟩ = some (.int .i64 s2) := by rw [(bcell hb1).1 _ _ (by simp)]; first | (rw [new_at (by simp)]; rfl) | simp
  have c1_7 : v1.cell? ⟨w.heap.size + 1, 2, none⟩ = some (.int .i64 ag2) := by rw [(bcell hb1).1 _ _ (by simp)]; first | (rw [new_at (by simp)]; rfl) | simp
  have c1_8 : v1.cell? ⟨w.heap.size + 1, 3, none⟩ = some (.slice bd n dp) := by rw [(bcell hb1).1 _ _ (by simp)]; first | (rw [new_at (by simp)]; rfl) | simp
  have c1_9 : v1.cell? ⟨w.heap.size + 1, 4, none⟩ = some (.slice be m2 dq) := by rw [(bcell hb1).1 _ _ (by simp)]; first | (rw [new_at (by simp)]; rfl) | simp
  have B1 : Hid (Below w.heap.size w v1) := st1
  have R1_0 : Hid (Row 2 v1 (lo) (hi) (.slice ad n cp) n (flat2 K)) := R0.out.below st1 (by omega)
  have R1_1 : Hid (Row 3 v1 (lo) (hi) (.slice ae m cq) m (flat T)) := R1.out.below st1 (by omega)
  have R1_2 : Hid (Row 2 v1 (lo2) (hi2) (.slice bd n dp) n (flat2 K2)) := R2.out.below st1 (by omega)
  have R1_3 : Hid (Row 3 v1 (lo2) (hi2) (.slice be m2 dq) m2 (flat T2)) := R3.out.below st1 (by omega)
  have d1_0 : w.heap.size < v1.heap.size := by omega
  have e1_0 : w.heap.size ≠ v1.heap.size := by omega
  have d1_1 : w.heap.size + 1 < v1.heap.size := by omega
  have e1_1 : w.heap.size + 1 ≠ v1.heap.size := by omega
  clear st1 R0 R1 R2 R3 hb1
  go_wp2_with fail
  go_at_call 12
  refine (slok_any o s2 ag2 lo2 hi2 lo2 hi2 n m2 _ _ K2 T2 _ HK2.out HT2.out R1_2.out R1_3.out (by first | omega | (simp; omega)) (by first | omega | (simp; omega))).mono ?_
  rw [Hv2.out]
  rintro e v2 ⟨rfl, hb2⟩
  have sz2 : v1.heap.size ≤ v2.heap.size := hb2.size
  have st2 : Below v1.heap.size v1 v2 := hb2
  have c2_0 : v2.cell? ⟨w.heap.size, 0, none⟩ = some (.int .i64 o) := by rw [(bcell st2).1 _ _ (by omega)]; exact c1_0
  have c2_1 : v2.cell? ⟨w.heap.size, 1, none⟩ = some (.int .i64 s) := by rw [(bcell st2).1 _ _ (by omega)]; exact c1_1
  have c2_2 : v2.cell? ⟨w.heap.size, 2, none⟩ = some (.int .i64 ag) := by rw [(bcell st2).1 _ _ (by omega)]; exact c1_2
  have c2_3 : v2.cell? ⟨w.heap.size, 3, none⟩ = some (.slice ad n cp) := by rw [(bcell st2).1 _ _ (by omega)]; exact c1_3
  have c2_4 : v2.cell? ⟨w.heap.size, 4, none⟩ = some (.slice ae m cq) := by rw [(bcell st2).1 _ _ (by omega)]; exact c1_4
  have c2_5 : v2.cell? ⟨w.heap.size + 1, 0, none⟩ = some (.int .i64 o) := by rw [(bcell st2).1 _ _ (by omega)]; exact c1_5
  have c2_6 : v2.cell? ⟨w.heap.size + 1, 1, none⟩ = some (.int .i64 s2) := by rw [(bcell st2).1 _ _ (by omega)]; exact c1_6
  have c2_7 : v2.cell? ⟨w.heap.size + 1, 2, none⟩ = some (.int .i64 ag2) := by rw [(bcell st2).1 _ _ (by omega)]; exact c1_7
  have c2_8 : v2.cell? ⟨w.heap.size + 1, 3, none⟩ = some (.slice bd n dp) := by rw [(bcell st2).1 _ _ (by omega)]; exact c1_8
  have c2_9 : v2.cell? ⟨w.heap.size + 1, 4, none⟩ = some (.slice be m2 dq) := by rw [(bcell st2).1 _ _ (by omega)]; exact c1_9
  have B2 : Hid (Below w.heap.size w v2) := B1.out.trans (st2.mono (by omega))
  have R2_0 : Hid (Row 2 v2 (lo) (hi) (.slice ad n cp) n (flat2 K)) := R1_0.out.below st2 (by omega)
  have R2_1 : Hid (Row 3 v2 (lo) (hi) (.slice ae m cq) m (flat T)) := R1_1.out.below st2 (by omega)
  have R2_2 : Hid (Row 2 v2 (lo2) (hi2) (.slice bd n dp) n (flat2 K2)) := R1_2.out.below st2 (by omega)
  have R2_3 : Hid (Row 3 v2 (lo2) (hi2) (.slice be m2 dq) m2 (flat T2)) := R1_3.out.below st2 (by omega)
  have d2_0 : w.heap.size < v2.heap.size := by omega
  have e2_0 : w.heap.size ≠ v2.heap.size := by omega
  have d2_1 : w.heap.size + 1 < v2.heap.size := by omega
  have e2_1 : w.heap.size + 1 ≠ v2.heap.size := by omega
  clear d1_0 e1_0 d1_1 e1_1 c1_0 c1_1 c1_2 c1_3 c1_4 c1_5 c1_6 c1_7 c1_8 c1_9 B1 st2 R1_0 R1_1 R1_2 R1_3 hb2
  go_wp2_with fail
  go_ret
  exact ⟨by rw [Hn.out]; rfl, B2.out⟩

set_option linter.unusedVariables false in
set_option maxRecDepth 100000 in
set_option maxHeartbeats 8000000 in
theorem ssame_5 (o s ag o2 s2 ag2 : Int) (lo hi n m lo2 hi2 n2 m2 : Nat) (u v u2 v2 : Value) (K : List Lk) (T : List Ed) (K2 : List Lk) (T2 : List Ed) (w : World) (hK : K.length = n) (hT : T.length = m) (hK2 : K2.length = n2) (hT2 : T2.length = m2) (hr : LRow w lo hi u v n m (flat2 K) (flat T)) (hr2 : LRow w lo2 hi2 u2 v2 n2 m2 (flat2 K2) (flat T2)) (hh : hi ≤ w.heap.size) (hh2 : hi2 ≤ w.heap.size) (hv : lokB o s ag K T = true) (hv2 : lokB o2 s2 ag2 K2 T2 = true) (ho : o = o2) (hn : n = n2) (hm : m = m2) :
    Calls Try.prog 31 #[.agg #[.int .i64 o, .int .i64 s, .int .i64 ag, u, v], .agg #[.int .i64 o2, .int .i64 s2, .int .i64 ag2, u2, v2]] w fun e w' => e = .returned (.bool (sameB o s ag o2 s2 ag2 K T K2 T2)) ∧ Below w.heap.size w w' := by
  subst ho
  subst hn
  subst hm
  have Hv := Lib.hid hv
  have Hv2 := Lib.hid hv2
  clear hv hv2
  have R0 := Lib.hid hr.fst
  have R1 := Lib.hid hr.snd
  have R2 := Lib.hid hr2.fst
  have R3 := Lib.hid hr2.snd
  have HK := Lib.hid hK
  have HT := Lib.hid hT
  have HK2 := Lib.hid hK2
  have HT2 := Lib.hid hT2
  obtain ⟨ad, cp, ae, cq, rfl, rfl⟩ := hr.slice
  obtain ⟨bd, dp, be, dq, rfl, rfl⟩ := hr2.slice
  clear hr hr2 hK hT hK2 hT2
  go_enter Try.func31, Try.ntmps31
  go_wp2_with fail
  go_at_call 12
  refine (slok_any o s ag lo hi lo hi n m _ _ K T _ HK.out HT.out (R0.out.below (B := w.heap.size) (by go_grown) (by omega)) (R1.out.below (B := w.heap.size) (by go_grown) (by omega)) (by first | omega | (simp; omega)) (by first | omega | (simp; omega))).mono ?_
  rw [Hv.out]
  rintro e v1 ⟨rfl, hb1⟩
  have sz1 : w.heap.size + 2 ≤ v1.heap.size := by have hh := hb1.size; simp at hh; omega
  have st1 : Below w.heap.size w v1 := Below.trans (by go_grown) (hb1.mono (by simp <;> omega))
  have c1_0 : v1.cell? ⟨w.heap.size, 0, none⟩ = some (.int .i64 o) := by rw [(bcell hb1).1 _ _ (by simp <;> omega), old_box (by simp <;> omega)]; first | (rw [new_at (by simp)]; rfl) | simp
  have c1_1 : v1.cell? ⟨w.heap.size, 1, none⟩ = some (.int .i64 s) := by rw [(bcell hb1).1 _ _ (by simp <;> omega), old_box (by simp <;> omega)]; first | (rw [new_at (by simp)]; rfl) | simp
  have c1_2 : v1.cell? ⟨w.heap.size, 2, none⟩ = some (.int .i64 ag) := by rw [(bcell hb1).1 _ _ (by simp <;> omega), old_box (by simp <;> omega)]; first | (rw [new_at (by simp)]; rfl) | simp
  have c1_3 : v1.cell? ⟨w.heap.size, 3, none⟩ = some (.slice ad n cp) := by rw [(bcell hb1).1 _ _ (by simp <;> omega), old_box (by simp <;> omega)]; first | (rw [new_at (by simp)]; rfl) | simp
  have c1_4 : v1.cell? ⟨w.heap.size, 4, none⟩ = some (.slice ae m cq) := by rw [(bcell hb1).1 _ _ (by simp <;> omega), old_box (by simp <;> omega)]; first | (rw [new_at (by simp)]; rfl) | simp
  have c1_5 : v1.cell? ⟨w.heap.size + 1, 0, none⟩ = some (.int .i64 o) := by rw [(bcell hb1).1 _ _ (by simp)]; first | (rw [new_at (by simp)]; rfl) | simp
  have c1_6 : v1.cell? ⟨w.heap.size + 1, 1, none⟩ = some (.int .i64 s2) := by rw [(bcell hb1).1 _ _ (by simp)]; first | (rw [new_at (by simp)]; rfl) | simp
  have c1_7 : v1.cell? ⟨w.heap.size + 1, 2, none⟩ = some (.int .i64 ag2) := by rw [(bcell hb1).1 _ _ (by simp)]; first | (rw [new_at (by simp)]; rfl) | simp
  have c1_8 : v1.cell? ⟨w.heap.size + 1, 3, none⟩ = some (.slice bd n dp) := by rw [(bcell hb1).1 _ _ (by simp)]; first | (rw [new_at (by simp)]; rfl) | simp
  have c1_9 : v1.cell? ⟨w.heap.size + 1, 4, none⟩ = some (.slice be m dq) := by rw [(bcell hb1).1 _ _ (by simp)]; first | (rw [new_at (by simp)]; rfl) | simp
  have B1 : Hid (Below w.heap.size w v1) := st1
  have R1_0 : Hid (Row 2 v1 (lo) (hi) (.slice ad n cp) n (flat2 K)) := R0.out.below st1 (by omega)
  have R1_1 : Hid (Row 3 v1 (lo) (hi) (.slice ae m cq) m (flat T)) := R1.out.below st1 (by omega)
  have R1_2 : Hid (Row 2 v1 (lo2) (hi2) (.slice bd n dp) n (flat2 K2)) := R2.out.below st1 (by omega)
  have R1_3 : Hid (Row 3 v1 (lo2) (hi2) (.slice be m dq) m (flat T2)) := R3.out.below st1 (by omega)
  have d1_0 : w.heap.size < v1.heap.size := by omega
  have e1_0 : w.heap.size ≠ v1.heap.size := by omega
  have d1_1 : w.heap.size + 1 < v1.heap.size := by omega
  have e1_1 : w.heap.size + 1 ≠ v1.heap.size := by omega
  clear st1 R0 R1 R2 R3 hb1
  go_wp2_with fail
  go_at_call 12
  refine (slok_any o s2 ag2 lo2 hi2 lo2 hi2 n m _ _ K2 T2 _ HK2.out HT2.out R1_2.out R1_3.out (by first | omega | (simp; omega)) (by first | omega | (simp; omega))).mono ?_
  rw [Hv2.out]
  rintro e v2 ⟨rfl, hb2⟩
  have sz2 : v1.heap.size ≤ v2.heap.size := hb2.size
  have st2 : Below v1.heap.size v1 v2 := hb2
  have c2_0 : v2.cell? ⟨w.heap.size, 0, none⟩ = some (.int .i64 o) := by rw [(bcell st2).1 _ _ (by omega)]; exact c1_0
  have c2_1 : v2.cell? ⟨w.heap.size, 1, none⟩ = some (.int .i64 s) := by rw [(bcell st2).1 _ _ (by omega)]; exact c1_1
  have c2_2 : v2.cell? ⟨w.heap.size, 2, none⟩ = some (.int .i64 ag) := by rw [(bcell st2).1 _ _ (by omega)]; exact c1_2
  have c2_3 : v2.cell? ⟨w.heap.size, 3, none⟩ = some (.slice ad n cp) := by rw [(bcell st2).1 _ _ (by omega)]; exact c1_3
  have c2_4 : v2.cell? ⟨w.heap.size, 4, none⟩ = some (.slice ae m cq) := by rw [(bcell st2).1 _ _ (by omega)]; exact c1_4
  have c2_5 : v2.cell? ⟨w.heap.size + 1, 0, none⟩ = some (.int .i64 o) := by rw [(bcell st2).1 _ _ (by omega)]; exact c1_5
  have c2_6 : v2.cell? ⟨w.heap.size + 1, 1, none⟩ = some (.int .i64 s2) := by rw [(bcell st2).1 _ _ (by omega)]; exact c1_6
  have c2_7 : v2.cell? ⟨w.heap.size + 1, 2, none⟩ = some (.int .i64 ag2) := by rw [(bcell st2).1 _ _ (by omega)]; exact c1_7
  have c2_8 : v2.cell? ⟨w.heap.size + 1, 3, none⟩ = some (.slice bd n dp) := by rw [(bcell st2).1 _ _ (by omega)]; exact c1_8
  have c2_9 : v2.cell? ⟨w.heap.size + 1, 4, none⟩ = some (.slice be m dq) := by rw [(bcell st2).1 _ _ (by omega)]; exact c1_9
  have B2 : Hid (Below w.heap.size w v2) := B1.out.trans (st2.mono (by omega))
  have R2_0 : Hid (Row 2 v2 (lo) (hi) (.slice ad n cp) n (flat2 K)) := R1_0.out.below st2 (by omega)
  have R2_1 : Hid (Row 3 v2 (lo) (hi) (.slice ae m cq) m (flat T)) := R1_1.out.below st2 (by omega)
  have R2_2 : Hid (Row 2 v2 (lo2) (hi2) (.slice bd n dp) n (flat2 K2)) := R1_2.out.below st2 (by omega)
  have R2_3 : Hid (Row 3 v2 (lo2) (hi2) (.slice be m dq) m (flat T2)) := R1_3.out.below st2 (by omega)
  have d2_0 : w.heap.size < v2.heap.size := by omega
  have e2_0 : w.heap.size ≠ v2.heap.size := by omega
  have d2_1 : w.heap.size + 1 < v2.heap.size := by omega
  have e2_1 : w.heap.size + 1 ≠ v2.heap.size := by omega
  clear d1_0 e1_0 d1_1 e1_1 c1_0 c1_1 c1_2 c1_3 c1_4 c1_5 c1_6 c1_7 c1_8 c1_9 B1 st2 R1_0 R1_1 R1_2 R1_3 hb2
  obtain ⟨a0, c0, e0, _, hu0⟩ := R2_0.out.opened
  obtain ⟨rfl, _, rfl⟩ := Value.slice.inj e0
  have HU0 := Lib.hid hu0
  clear hu0 e0
  obtain ⟨a1, c1, e1, _, hu1⟩ := R2_1.out.opened
  obtain ⟨rfl, _, rfl⟩ := Value.slice.inj e1
  have HU1 := Lib.hid hu1
  clear hu1 e1
  obtain ⟨a2, c2, e2, _, hu2⟩ := R2_2.out.opened
  obtain ⟨rfl, _, rfl⟩ := Value.slice.inj e2
  have HU2 := Lib.hid hu2
  clear hu2 e2
  obtain ⟨a3, c3, e3, _, hu3⟩ := R2_3.out.opened
  obtain ⟨rfl, _, rfl⟩ := Value.slice.inj e3
  have HU3 := Lib.hid hu3
  clear hu3 e3
  go_wp2
  go_loopw [5] (fun i wr => ∃ k q : Nat, k ≤ n ∧ i = .int .i64 (k : Int) ∧ Hid (∀ j, j < k → K[j]? = K2[j]?) ∧ wr = v2.drewN q) (fun i _ => n - (intOf i).toNat)
  case atStart => exact ⟨0, 0, Nat.zero_le _, rfl, Lib.hid (fun j hj => absurd hj (Nat.not_lt_zero _)), rfl⟩
  case round =>
    obtain ⟨k, q, hk, rfl, HP, rfl⟩ := hrel
    by_cases hlt : k < n
    · obtain ⟨r, hr⟩ : ∃ r, K[k]? = some r := ⟨K[k]'(by rw [HK.out]; exact hlt), List.getElem?_eq_getElem _⟩
      obtain ⟨r', hr'⟩ : ∃ r, K2[k]? = some r := ⟨K2[k]'(by rw [HK2.out]; exact hlt), List.getElem?_eq_getElem _⟩
      obtain ⟨a, c⟩ := r
      obtain ⟨a', c'⟩ := r'
      obtain ⟨r0, r1⟩ := flat2_at K k _ hr
      obtain ⟨s0, s1⟩ := flat2_at K2 k _ hr'
      obtain ⟨g, rfl, _, H⟩ := HU0.out (by omega)
      obtain ⟨g', rfl, _, H'⟩ := HU2.out (by omega)
      have z0 := H _ _ r0
      have y0 := H' _ _ s0
      have z1 := H _ _ r1
      have y1 := H' _ _ s1
      have HL := Lib.hid hr
      have HL' := Lib.hid hr'
      have q0 : (0 : Int) ≤ (k : Int) := by omega
      have q1 : (k : Int) < (n : Int) := by omega
      clear H H' hr hr' r0 s0 r1 s1
      by_cases he : a = a' ∧ c = c'
      · obtain ⟨rfl, rfl⟩ := he
        have Hc : Hid (∀ j, j < k + 1 → K[j]? = K2[j]?) := Lib.hid (all_nextP HP.out (by rw [HL.out, HL'.out]))
        go_wp2_with fail
        go_quiet (fail)
        go_wp2_with fail
        go_roundw
        case rel => exact ⟨k + 1, _, by omega, by go_num, Hc, rfl⟩
        case measure => simp [intOf]; omega
      · have hne : K ≠ K2 := fun e => he (by have h1 := HL.out; rw [e, HL'.out] at h1; simp at h1; exact ⟨h1.1.symm, h1.2.symm⟩)
        have Hn := Lib.hid (same_no (o := o) (o2 := o) (s := s) (ag := ag) (s2 := s2) (ag2 := ag2) (K := K) (T := T) (K2 := K2) (T2 := T2) (.inr (.inr (.inr (.inl hne)))))
        clear hne
        by_cases e0 : a = a'
        rotate_left
        · have f1 : (a == a') = false := by simp [e0]
          have He := Lib.hid he
          have He2 := Lib.hid e0
          clear he e0
          go_wp2_with fail
          go_quiet (fail)
          go_wp2_with fail
          go_ret
          exact ⟨by rw [Hn.out]; rfl, xdrew2 B2.out⟩
        by_cases e1 : c = c'
        · exact absurd (by exact ⟨e0, e1⟩) he
        · have f1 : (c == c') = false := by simp [e1]
          subst e0
          have He := Lib.hid he
          have He2 := Lib.hid e1
          clear he e1
          go_wp2_with fail
          go_quiet (fail)
          go_wp2_with fail
          go_ret
          exact ⟨by rw [Hn.out]; rfl, xdrew2 B2.out⟩
    · have hge : ¬ ((k : Int) < (n : Int)) := by omega
      obtain rfl : n = k := by omega
      have HyK := Lib.hid (lk_ext (by rw [HK.out, HK2.out]) (fun j hj => HP.out j (by rw [HK.out] at hj; exact hj)))
      clear HP hlt hge
      go_wp2
      go_loopw [6] (fun i wr => ∃ k q : Nat, k ≤ m ∧ i = .int .i64 (k : Int) ∧ Hid (∀ j, j < k → T[j]? = T2[j]?) ∧ wr = v2.drewN q) (fun i _ => m - (intOf i).toNat)
      case atStart => exact ⟨0, _, Nat.zero_le _, rfl, Lib.hid (fun j hj => absurd hj (Nat.not_lt_zero _)), rfl⟩
      case round =>
        obtain ⟨k, q, hk, rfl, HP, rfl⟩ := hrel
        by_cases hlt : k < m
        · obtain ⟨r, hr⟩ : ∃ r, T[k]? = some r := ⟨T[k]'(by rw [HT.out]; exact hlt), List.getElem?_eq_getElem _⟩
          obtain ⟨r', hr'⟩ : ∃ r, T2[k]? = some r := ⟨T2[k]'(by rw [HT2.out]; exact hlt), List.getElem?_eq_getElem _⟩
          obtain ⟨a, b, c⟩ := r
          obtain ⟨a', b', c'⟩ := r'
          obtain ⟨r0, r1, r2⟩ := flat_at T k _ hr
          obtain ⟨s0, s1, s2⟩ := flat_at T2 k _ hr'
          obtain ⟨g, rfl, _, H⟩ := HU1.out (by omega)
          obtain ⟨g', rfl, _, H'⟩ := HU3.out (by omega)
          have z0 := H _ _ r0
          have y0 := H' _ _ s0
          have z1 := H _ _ r1
          have y1 := H' _ _ s1
          have z2 := H _ _ r2
          have y2 := H' _ _ s2
          have HL := Lib.hid hr
          have HL' := Lib.hid hr'
          have q0 : (0 : Int) ≤ (k : Int) := by omega
          have q1 : (k : Int) < (m : Int) := by omega
          clear H H' hr hr' r0 s0 r1 s1 r2 s2
          by_cases he : a = a' ∧ b = b' ∧ c = c'
          · obtain ⟨rfl, rfl, rfl⟩ := he
            have Hc : Hid (∀ j, j < k + 1 → T[j]? = T2[j]?) := Lib.hid (all_nextP HP.out (by rw [HL.out, HL'.out]))
            go_wp2_with fail
            go_quiet (fail)
            go_wp2_with fail
            go_roundw
            case rel => exact ⟨k + 1, _, by omega, by go_num, Hc, rfl⟩
            case measure => simp [intOf]; omega
          · have hne : T ≠ T2 := fun e => he (by have h1 := HL.out; rw [e, HL'.out] at h1; simp at h1; exact ⟨h1.1.symm, h1.2.1.symm, h1.2.2.symm⟩)
            have Hn := Lib.hid (same_no (o := o) (o2 := o) (s := s) (ag := ag) (s2 := s2) (ag2 := ag2) (K := K) (T := T) (K2 := K2) (T2 := T2) (.inr (.inr (.inr (.inr hne)))))
            clear hne
            by_cases e0 : a = a'
            rotate_left
            · have f1 : (a == a') = false := by simp [e0]
              have He := Lib.hid he
              have He2 := Lib.hid e0
              clear he e0
              go_wp2_with fail
              go_quiet (fail)
              go_wp2_with fail
              go_ret
              exact ⟨by rw [Hn.out]; rfl, xdrew2 B2.out⟩
            by_cases e1 : b = b'
            rotate_left
            · have f1 : (b == b') = false := by simp [e1]
              subst e0
              have He := Lib.hid he
              have He2 := Lib.hid e1
              clear he e1
              go_wp2_with fail
              go_quiet (fail)
              go_wp2_with fail
              go_ret
              exact ⟨by rw [Hn.out]; rfl, xdrew2 B2.out⟩
            by_cases e2 : c = c'
            · exact absurd (by exact ⟨e0, e1, e2⟩) he
            · have f1 : (c == c') = false := by simp [e2]
              subst e0
              subst e1
              have He := Lib.hid he
              have He2 := Lib.hid e2
              clear he e2
              go_wp2_with fail
              go_quiet (fail)
              go_wp2_with fail
              go_ret
              exact ⟨by rw [Hn.out]; rfl, xdrew2 B2.out⟩
        · have hge : ¬ ((k : Int) < (m : Int)) := by omega
          obtain rfl : m = k := by omega
          have HyT := Lib.hid (ed_ext (by rw [HT.out, HT2.out]) (fun j hj => HP.out j (by rw [HT.out] at hj; exact hj)))
          go_wp2
          go_ret
          exact ⟨by unfold sameB; rw [Hv.out, Hv2.out, HyK.out, HyT.out]; simp, xdrew1 B2.out⟩

theorem ssame_any (o s ag o2 s2 ag2 : Int) (lo hi n m lo2 hi2 n2 m2 : Nat) (u v u2 v2 : Value) (K : List Lk) (T : List Ed) (K2 : List Lk) (T2 : List Ed) (w : World) (hK : K.length = n) (hT : T.length = m) (hK2 : K2.length = n2) (hT2 : T2.length = m2) (hr : LRow w lo hi u v n m (flat2 K) (flat T)) (hr2 : LRow w lo2 hi2 u2 v2 n2 m2 (flat2 K2) (flat T2)) (hh : hi ≤ w.heap.size) (hh2 : hi2 ≤ w.heap.size) :
    Calls Try.prog 31 #[.agg #[.int .i64 o, .int .i64 s, .int .i64 ag, u, v], .agg #[.int .i64 o2, .int .i64 s2, .int .i64 ag2, u2, v2]] w fun e w' => e = .returned (.bool (sameB o s ag o2 s2 ag2 K T K2 T2)) ∧ Below w.heap.size w w' := by
  cases hv : lokB o s ag K T
  · exact ssame_0 o s ag o2 s2 ag2 lo hi n m lo2 hi2 n2 m2 u v u2 v2 K T K2 T2 w hK hT hK2 hT2 hr hr2 hh hh2 hv
  cases hv2 : lokB o2 s2 ag2 K2 T2
  · exact ssame_1 o s ag o2 s2 ag2 lo hi n m lo2 hi2 n2 m2 u v u2 v2 K T K2 T2 w hK hT hK2 hT2 hr hr2 hh hh2 hv hv2
  by_cases ho : o = o2
  · by_cases hn : n = n2
    · by_cases hm : m = m2
      · exact ssame_5 o s ag o2 s2 ag2 lo hi n m lo2 hi2 n2 m2 u v u2 v2 K T K2 T2 w hK hT hK2 hT2 hr hr2 hh hh2 hv hv2 ho hn hm
      · exact ssame_4 o s ag o2 s2 ag2 lo hi n m lo2 hi2 n2 m2 u v u2 v2 K T K2 T2 w hK hT hK2 hT2 hr hr2 hh hh2 hv hv2 ho hn hm
    · exact ssame_3 o s ag o2 s2 ag2 lo hi n m lo2 hi2 n2 m2 u v u2 v2 K T K2 T2 w hK hT hK2 hT2 hr hr2 hh hh2 hv hv2 ho hn
  · exact ssame_2 o s ag o2 s2 ag2 lo hi n m lo2 hi2 n2 m2 u v u2 v2 K T K2 T2 w hK hT hK2 hT2 hr hr2 hh hh2 hv hv2 ho

end Go.Proofs.Ytcaoohcfoccedaa
