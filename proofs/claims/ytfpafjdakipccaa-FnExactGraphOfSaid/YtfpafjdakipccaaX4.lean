/- Which advertisements are valid, by the program. -/
import Derived.Test.YtfpafjdakipccaaX3
import Derived.Test.YtfpafjdakipccaaGw
namespace Go.Proofs.Ytfpafjdakipccaa
open Go.RowKit
set_option linter.unusedVariables false in
set_option maxRecDepth 100000 in
set_option maxHeartbeats 2000000 in
theorem ilok_0 (o s ag : Int) (lo hi lo' hi' n m : Nat) (u v : Value) (K : List Lk) (T : List Ed) (w : World) (hK : K.length = n) (hT : T.length = m) (hr : Row 2 w lo hi u n (flat2 K)) (hr' : Row 3 w lo' hi' v m (flat T)) (hh : hi <= w.heap.size) (hh' : hi' <= w.heap.size) (ho : inB o 0 9 = false) (hv : lokB o s ag K T = false) :
    Calls Try.prog 56 #[.agg #[.int .i64 o, .int .i64 s, .int .i64 ag, u, v]] w fun e w' => e = .returned (.bool (lokB o s ag K T)) /\ Below w.heap.size w w' := by
  have R0 := Lib.hid hr
  have R1 := Lib.hid hr'
  have HK := Lib.hid hK
  have HT := Lib.hid hT
  have Hv := Lib.hid hv
  obtain ⟨ad, cp, rfl⟩ := hr.slice
  obtain ⟨ae, cq, rfl⟩ := hr'.slice
  clear hr hr' hK hT hv
  go_enter Try.func56, Try.ntmps56
  go_wp2_with fail
  go_at_call 94
  refine (origin_any o _).mono ?_
  rw [ho]
  rintro e w' ⟨rfl, rfl⟩
  go_wp2_with fail
  go_ret
  exact ⟨by rw [Hv.out]; rfl, by go_grown⟩
set_option linter.unusedVariables false in
set_option maxRecDepth 100000 in
set_option maxHeartbeats 2000000 in
theorem ilok_1 (o s ag : Int) (lo hi lo' hi' n m : Nat) (u v : Value) (K : List Lk) (T : List Ed) (w : World) (hK : K.length = n) (hT : T.length = m) (hr : Row 2 w lo hi u n (flat2 K)) (hr' : Row 3 w lo' hi' v m (flat T)) (hh : hi <= w.heap.size) (hh' : hi' <= w.heap.size) (ho : inB o 0 9 = true) (h1 : ¬ 1 <= s) (hv : lokB o s ag K T = false) :
    Calls Try.prog 56 #[.agg #[.int .i64 o, .int .i64 s, .int .i64 ag, u, v]] w fun e w' => e = .returned (.bool (lokB o s ag K T)) /\ Below w.heap.size w w' := by
  have R0 := Lib.hid hr
  have R1 := Lib.hid hr'
  have HK := Lib.hid hK
  have HT := Lib.hid hT
  have Hv := Lib.hid hv
  obtain ⟨ad, cp, rfl⟩ := hr.slice
  obtain ⟨ae, cq, rfl⟩ := hr'.slice
  clear hr hr' hK hT hv
  have d1 : decide (1 <= s) = false := decide_eq_false h1
  go_enter Try.func56, Try.ntmps56
  go_wp2_with fail
  go_at_call 94
  refine (origin_any o _).mono ?_
  rw [ho]
  rintro e w' ⟨rfl, rfl⟩
  go_wp2_with fail
  go_ret
  exact ⟨by rw [Hv.out]; rfl, by go_grown⟩
set_option linter.unusedVariables false in
set_option maxRecDepth 100000 in
set_option maxHeartbeats 2000000 in
theorem ilok_2 (o s ag : Int) (lo hi lo' hi' n m : Nat) (u v : Value) (K : List Lk) (T : List Ed) (w : World) (hK : K.length = n) (hT : T.length = m) (hr : Row 2 w lo hi u n (flat2 K)) (hr' : Row 3 w lo' hi' v m (flat T)) (hh : hi <= w.heap.size) (hh' : hi' <= w.heap.size) (ho : inB o 0 9 = true) (h1 : 1 <= s) (h2 : ¬ s <= 1000000) (hv : lokB o s ag K T = false) :
    Calls Try.prog 56 #[.agg #[.int .i64 o, .int .i64 s, .int .i64 ag, u, v]] w fun e w' => e = .returned (.bool (lokB o s ag K T)) /\ Below w.heap.size w w' := by
  have R0 := Lib.hid hr
  have R1 := Lib.hid hr'
  have HK := Lib.hid hK
  have HT := Lib.hid hT
  have Hv := Lib.hid hv
  obtain ⟨ad, cp, rfl⟩ := hr.slice
  obtain ⟨ae, cq, rfl⟩ := hr'.slice
  clear hr hr' hK hT hv
  have d1 : decide (s <= 1000000) = false := decide_eq_false h2
  go_enter Try.func56, Try.ntmps56
  go_wp2_with fail
  go_at_call 94
  refine (origin_any o _).mono ?_
  rw [ho]
  rintro e w' ⟨rfl, rfl⟩
  go_wp2_with fail
  go_ret
  exact ⟨by rw [Hv.out]; rfl, by go_grown⟩
set_option linter.unusedVariables false in
set_option maxRecDepth 100000 in
set_option maxHeartbeats 2000000 in
theorem ilok_3 (o s ag : Int) (lo hi lo' hi' n m : Nat) (u v : Value) (K : List Lk) (T : List Ed) (w : World) (hK : K.length = n) (hT : T.length = m) (hr : Row 2 w lo hi u n (flat2 K)) (hr' : Row 3 w lo' hi' v m (flat T)) (hh : hi <= w.heap.size) (hh' : hi' <= w.heap.size) (ho : inB o 0 9 = true) (h1 : 1 <= s) (h2 : s <= 1000000) (h3 : ¬ 0 <= ag) (hv : lokB o s ag K T = false) :
    Calls Try.prog 56 #[.agg #[.int .i64 o, .int .i64 s, .int .i64 ag, u, v]] w fun e w' => e = .returned (.bool (lokB o s ag K T)) /\ Below w.heap.size w w' := by
  have R0 := Lib.hid hr
  have R1 := Lib.hid hr'
  have HK := Lib.hid hK
  have HT := Lib.hid hT
  have Hv := Lib.hid hv
  obtain ⟨ad, cp, rfl⟩ := hr.slice
  obtain ⟨ae, cq, rfl⟩ := hr'.slice
  clear hr hr' hK hT hv
  have d1 : decide (0 <= ag) = false := decide_eq_false h3
  go_enter Try.func56, Try.ntmps56
  go_wp2_with fail
  go_at_call 94
  refine (origin_any o _).mono ?_
  rw [ho]
  rintro e w' ⟨rfl, rfl⟩
  go_wp2_with fail
  go_ret
  exact ⟨by rw [Hv.out]; rfl, by go_grown⟩
set_option linter.unusedVariables false in
set_option maxRecDepth 100000 in
set_option maxHeartbeats 2000000 in
theorem ilok_4 (o s ag : Int) (lo hi lo' hi' n m : Nat) (u v : Value) (K : List Lk) (T : List Ed) (w : World) (hK : K.length = n) (hT : T.length = m) (hr : Row 2 w lo hi u n (flat2 K)) (hr' : Row 3 w lo' hi' v m (flat T)) (hh : hi <= w.heap.size) (hh' : hi' <= w.heap.size) (ho : inB o 0 9 = true) (h1 : 1 <= s) (h2 : s <= 1000000) (h3 : 0 <= ag) (h4 : ¬ ag <= 60) (hv : lokB o s ag K T = false) :
    Calls Try.prog 56 #[.agg #[.int .i64 o, .int .i64 s, .int .i64 ag, u, v]] w fun e w' => e = .returned (.bool (lokB o s ag K T)) /\ Below w.heap.size w w' := by
  have R0 := Lib.hid hr
  have R1 := Lib.hid hr'
  have HK := Lib.hid hK
  have HT := Lib.hid hT
  have Hv := Lib.hid hv
  obtain ⟨ad, cp, rfl⟩ := hr.slice
  obtain ⟨ae, cq, rfl⟩ := hr'.slice
  clear hr hr' hK hT hv
  have d1 : decide (ag <= 60) = false := decide_eq_false h4
  go_enter Try.func56, Try.ntmps56
  go_wp2_with fail
  go_at_call 94
  refine (origin_any o _).mono ?_
  rw [ho]
  rintro e w' ⟨rfl, rfl⟩
  go_wp2_with fail
  go_ret
  exact ⟨by rw [Hv.out]; rfl, by go_grown⟩
set_option linter.unusedVariables false in
set_option maxRecDepth 100000 in
set_option maxHeartbeats 2000000 in
theorem ilok_5 (o s ag : Int) (lo hi lo' hi' n m : Nat) (u v : Value) (K : List Lk) (T : List Ed) (w : World) (hK : K.length = n) (hT : T.length = m) (hr : Row 2 w lo hi u n (flat2 K)) (hr' : Row 3 w lo' hi' v m (flat T)) (hh : hi <= w.heap.size) (hh' : hi' <= w.heap.size) (ho : inB o 0 9 = true) (h1 : 1 <= s) (h2 : s <= 1000000) (h3 : 0 <= ag) (h4 : ag <= 60) (hl : lksB o K = false) (hv : lokB o s ag K T = false) :
    Calls Try.prog 56 #[.agg #[.int .i64 o, .int .i64 s, .int .i64 ag, u, v]] w fun e w' => e = .returned (.bool (lokB o s ag K T)) /\ Below w.heap.size w w' := by
  have R0 := Lib.hid hr
  have R1 := Lib.hid hr'
  have HK := Lib.hid hK
  have HT := Lib.hid hT
  have Hv := Lib.hid hv
  obtain ⟨ad, cp, rfl⟩ := hr.slice
  obtain ⟨ae, cq, rfl⟩ := hr'.slice
  clear hr hr' hK hT hv
  go_enter Try.func56, Try.ntmps56
  go_wp2_with fail
  go_at_call 94
  refine (origin_any o _).mono ?_
  rw [ho]
  rintro e w' ⟨rfl, rfl⟩
  go_wp2_with fail
  go_at_call 95
  refine (ilinks_any o lo hi n _ K _ HK.out (R0.out.below (B := w.heap.size) (by go_grown) hh) (by first | omega | (simp; omega))).mono ?_
  rw [hl]
  rintro e v1 ⟨rfl, hb1⟩
  have sz1 : w.heap.size + 1 <= v1.heap.size := by have hh := hb1.size; simp at hh; omega
  have st1 : Below w.heap.size w v1 := Below.trans (by go_grown) (hb1.mono (by simp))
  have c1_0 : v1.cell? ⟨w.heap.size, 0, none⟩ = some (.int .i64 o) := by rw [(bcell hb1).1 _ _ (by simp)]; first | (rw [new_at (by simp)]; rfl) | simp
  have c1_1 : v1.cell? ⟨w.heap.size, 1, none⟩ = some (.int .i64 s) := by rw [(bcell hb1).1 _ _ (by simp)]; first | (rw [new_at (by simp)]; rfl) | simp
  have c1_2 : v1.cell? ⟨w.heap.size, 2, none⟩ = some (.int .i64 ag) := by rw [(bcell hb1).1 _ _ (by simp)]; first | (rw [new_at (by simp)]; rfl) | simp
  have c1_3 : v1.cell? ⟨w.heap.size, 3, none⟩ = some (.slice ad n cp) := by rw [(bcell hb1).1 _ _ (by simp)]; first | (rw [new_at (by simp)]; rfl) | simp
  have c1_4 : v1.cell? ⟨w.heap.size, 4, none⟩ = some (.slice ae m cq) := by rw [(bcell hb1).1 _ _ (by simp)]; first | (rw [new_at (by simp)]; rfl) | simp
  have B1 : Hid (Below w.heap.size w v1) := st1
  have R1_0 : Hid (Row 2 v1 (lo) (hi) (.slice ad n cp) n (flat2 K)) := R0.out.below st1 (by omega)
  have R1_1 : Hid (Row 3 v1 (lo') (hi') (.slice ae m cq) m (flat T)) := R1.out.below st1 (by omega)
  have d1_0 : w.heap.size < v1.heap.size := by omega
  have e1_0 : w.heap.size ≠ v1.heap.size := by omega
  clear st1 R0 R1 hb1
  go_wp2_with fail
  go_ret
  exact ⟨by rw [Hv.out]; rfl, B1.out⟩
set_option linter.unusedVariables false in
set_option maxRecDepth 100000 in
set_option maxHeartbeats 2000000 in
theorem ilok_6 (o s ag : Int) (lo hi lo' hi' n m : Nat) (u v : Value) (K : List Lk) (T : List Ed) (w : World) (hK : K.length = n) (hT : T.length = m) (hr : Row 2 w lo hi u n (flat2 K)) (hr' : Row 3 w lo' hi' v m (flat T)) (hh : hi <= w.heap.size) (hh' : hi' <= w.heap.size) (ho : inB o 0 9 = true) (h1 : 1 <= s) (h2 : s <= 1000000) (h3 : 0 <= ag) (h4 : ag <= 60) (hl : lksB o K = true) (ht : stsB T = false) (hv : lokB o s ag K T = false) :
    Calls Try.prog 56 #[.agg #[.int .i64 o, .int .i64 s, .int .i64 ag, u, v]] w fun e w' => e = .returned (.bool (lokB o s ag K T)) /\ Below w.heap.size w w' := by
  have R0 := Lib.hid hr
  have R1 := Lib.hid hr'
  have HK := Lib.hid hK
  have HT := Lib.hid hT
  have Hv := Lib.hid hv
  obtain ⟨ad, cp, rfl⟩ := hr.slice
  obtain ⟨ae, cq, rfl⟩ := hr'.slice
  clear hr hr' hK hT hv
  go_enter Try.func56, Try.ntmps56
  go_wp2_with fail
  go_at_call 94
  refine (origin_any o _).mono ?_
  rw [ho]
  rintro e w' ⟨rfl, rfl⟩
  go_wp2_with fail
  go_at_call 95
  refine (ilinks_any o lo hi n _ K _ HK.out (R0.out.below (B := w.heap.size) (by go_grown) hh) (by first | omega | (simp; omega))).mono ?_
  rw [hl]
  rintro e v1 ⟨rfl, hb1⟩
  have sz1 : w.heap.size + 1 <= v1.heap.size := by have hh := hb1.size; simp at hh; omega
  have st1 : Below w.heap.size w v1 := Below.trans (by go_grown) (hb1.mono (by simp))
  have c1_0 : v1.cell? ⟨w.heap.size, 0, none⟩ = some (.int .i64 o) := by rw [(bcell hb1).1 _ _ (by simp)]; first | (rw [new_at (by simp)]; rfl) | simp
  have c1_1 : v1.cell? ⟨w.heap.size, 1, none⟩ = some (.int .i64 s) := by rw [(bcell hb1).1 _ _ (by simp)]; first | (rw [new_at (by simp)]; rfl) | simp
  have c1_2 : v1.cell? ⟨w.heap.size, 2, none⟩ = some (.int .i64 ag) := by rw [(bcell hb1).1 _ _ (by simp)]; first | (rw [new_at (by simp)]; rfl) | simp
  have c1_3 : v1.cell? ⟨w.heap.size, 3, none⟩ = some (.slice ad n cp) := by rw [(bcell hb1).1 _ _ (by simp)]; first | (rw [new_at (by simp)]; rfl) | simp
  have c1_4 : v1.cell? ⟨w.heap.size, 4, none⟩ = some (.slice ae m cq) := by rw [(bcell hb1).1 _ _ (by simp)]; first | (rw [new_at (by simp)]; rfl) | simp
  have B1 : Hid (Below w.heap.size w v1) := st1
  have R1_0 : Hid (Row 2 v1 (lo) (hi) (.slice ad n cp) n (flat2 K)) := R0.out.below st1 (by omega)
  have R1_1 : Hid (Row 3 v1 (lo') (hi') (.slice ae m cq) m (flat T)) := R1.out.below st1 (by omega)
  have d1_0 : w.heap.size < v1.heap.size := by omega
  have e1_0 : w.heap.size ≠ v1.heap.size := by omega
  clear st1 R0 R1 hb1
  go_wp2_with fail
  go_at_call 96
  refine (istubs_any lo' hi' m _ T _ HT.out R1_1.out (by omega)).mono ?_
  rw [ht]
  rintro e v2 ⟨rfl, hb2⟩
  have sz2 : v1.heap.size <= v2.heap.size := hb2.size
  have st2 : Below v1.heap.size v1 v2 := hb2
  have c2_0 : v2.cell? ⟨w.heap.size, 0, none⟩ = some (.int .i64 o) := by rw [(bcell st2).1 _ _ (by omega)]; exact c1_0
  have c2_1 : v2.cell? ⟨w.heap.size, 1, none⟩ = some (.int .i64 s) := by rw [(bcell st2).1 _ _ (by omega)]; exact c1_1
  have c2_2 : v2.cell? ⟨w.heap.size, 2, none⟩ = some (.int .i64 ag) := by rw [(bcell st2).1 _ _ (by omega)]; exact c1_2
  have c2_3 : v2.cell? ⟨w.heap.size, 3, none⟩ = some (.slice ad n cp) := by rw [(bcell st2).1 _ _ (by omega)]; exact c1_3
  have c2_4 : v2.cell? ⟨w.heap.size, 4, none⟩ = some (.slice ae m cq) := by rw [(bcell st2).1 _ _ (by omega)]; exact c1_4
  have B2 : Hid (Below w.heap.size w v2) := B1.out.trans (st2.mono (by omega))
  have R2_0 : Hid (Row 2 v2 (lo) (hi) (.slice ad n cp) n (flat2 K)) := R1_0.out.below st2 (by omega)
  have R2_1 : Hid (Row 3 v2 (lo') (hi') (.slice ae m cq) m (flat T)) := R1_1.out.below st2 (by omega)
  have d2_0 : w.heap.size < v2.heap.size := by omega
  have e2_0 : w.heap.size ≠ v2.heap.size := by omega
  clear d1_0 e1_0 c1_0 c1_1 c1_2 c1_3 c1_4 B1 st2 R1_0 R1_1 hb2
  go_wp2_with fail
  go_ret
  exact ⟨by rw [Hv.out]; rfl, B2.out⟩
set_option linter.unusedVariables false in
set_option maxRecDepth 100000 in
set_option maxHeartbeats 2000000 in
theorem ilok_7 (o s ag : Int) (lo hi lo' hi' n m : Nat) (u v : Value) (K : List Lk) (T : List Ed) (w : World) (hK : K.length = n) (hT : T.length = m) (hr : Row 2 w lo hi u n (flat2 K)) (hr' : Row 3 w lo' hi' v m (flat T)) (hh : hi <= w.heap.size) (hh' : hi' <= w.heap.size) (ho : inB o 0 9 = true) (h1 : 1 <= s) (h2 : s <= 1000000) (h3 : 0 <= ag) (h4 : ag <= 60) (hl : lksB o K = true) (ht : stsB T = true) (hv : lokB o s ag K T = true) :
    Calls Try.prog 56 #[.agg #[.int .i64 o, .int .i64 s, .int .i64 ag, u, v]] w fun e w' => e = .returned (.bool (lokB o s ag K T)) /\ Below w.heap.size w w' := by
  have R0 := Lib.hid hr
  have R1 := Lib.hid hr'
  have HK := Lib.hid hK
  have HT := Lib.hid hT
  have Hv := Lib.hid hv
  obtain ⟨ad, cp, rfl⟩ := hr.slice
  obtain ⟨ae, cq, rfl⟩ := hr'.slice
  clear hr hr' hK hT hv
  go_enter Try.func56, Try.ntmps56
  go_wp2_with fail
  go_at_call 94
  refine (origin_any o _).mono ?_
  rw [ho]
  rintro e w' ⟨rfl, rfl⟩
  go_wp2_with fail
  go_at_call 95
  refine (ilinks_any o lo hi n _ K _ HK.out (R0.out.below (B := w.heap.size) (by go_grown) hh) (by first | omega | (simp; omega))).mono ?_
  rw [hl]
  rintro e v1 ⟨rfl, hb1⟩
  have sz1 : w.heap.size + 1 <= v1.heap.size := by have hh := hb1.size; simp at hh; omega
  have st1 : Below w.heap.size w v1 := Below.trans (by go_grown) (hb1.mono (by simp))
  have c1_0 : v1.cell? ⟨w.heap.size, 0, none⟩ = some (.int .i64 o) := by rw [(bcell hb1).1 _ _ (by simp)]; first | (rw [new_at (by simp)]; rfl) | simp
  have c1_1 : v1.cell? ⟨w.heap.size, 1, none⟩ = some (.int .i64 s) := by rw [(bcell hb1).1 _ _ (by simp)]; first | (rw [new_at (by simp)]; rfl) | simp
  have c1_2 : v1.cell? ⟨w.heap.size, 2, none⟩ = some (.int .i64 ag) := by rw [(bcell hb1).1 _ _ (by simp)]; first | (rw [new_at (by simp)]; rfl) | simp
  have c1_3 : v1.cell? ⟨w.heap.size, 3, none⟩ = some (.slice ad n cp) := by rw [(bcell hb1).1 _ _ (by simp)]; first | (rw [new_at (by simp)]; rfl) | simp
  have c1_4 : v1.cell? ⟨w.heap.size, 4, none⟩ = some (.slice ae m cq) := by rw [(bcell hb1).1 _ _ (by simp)]; first | (rw [new_at (by simp)]; rfl) | simp
  have B1 : Hid (Below w.heap.size w v1) := st1
  have R1_0 : Hid (Row 2 v1 (lo) (hi) (.slice ad n cp) n (flat2 K)) := R0.out.below st1 (by omega)
  have R1_1 : Hid (Row 3 v1 (lo') (hi') (.slice ae m cq) m (flat T)) := R1.out.below st1 (by omega)
  have d1_0 : w.heap.size < v1.heap.size := by omega
  have e1_0 : w.heap.size ≠ v1.heap.size := by omega
  clear st1 R0 R1 hb1
  go_wp2_with fail
  go_at_call 96
  refine (istubs_any lo' hi' m _ T _ HT.out R1_1.out (by omega)).mono ?_
  rw [ht]
  rintro e v2 ⟨rfl, hb2⟩
  have sz2 : v1.heap.size <= v2.heap.size := hb2.size
  have st2 : Below v1.heap.size v1 v2 := hb2
  have c2_0 : v2.cell? ⟨w.heap.size, 0, none⟩ = some (.int .i64 o) := by rw [(bcell st2).1 _ _ (by omega)]; exact c1_0
  have c2_1 : v2.cell? ⟨w.heap.size, 1, none⟩ = some (.int .i64 s) := by rw [(bcell st2).1 _ _ (by omega)]; exact c1_1
  have c2_2 : v2.cell? ⟨w.heap.size, 2, none⟩ = some (.int .i64 ag) := by rw [(bcell st2).1 _ _ (by omega)]; exact c1_2
  have c2_3 : v2.cell? ⟨w.heap.size, 3, none⟩ = some (.slice ad n cp) := by rw [(bcell st2).1 _ _ (by omega)]; exact c1_3
  have c2_4 : v2.cell? ⟨w.heap.size, 4, none⟩ = some (.slice ae m cq) := by rw [(bcell st2).1 _ _ (by omega)]; exact c1_4
  have B2 : Hid (Below w.heap.size w v2) := B1.out.trans (st2.mono (by omega))
  have R2_0 : Hid (Row 2 v2 (lo) (hi) (.slice ad n cp) n (flat2 K)) := R1_0.out.below st2 (by omega)
  have R2_1 : Hid (Row 3 v2 (lo') (hi') (.slice ae m cq) m (flat T)) := R1_1.out.below st2 (by omega)
  have d2_0 : w.heap.size < v2.heap.size := by omega
  have e2_0 : w.heap.size ≠ v2.heap.size := by omega
  clear d1_0 e1_0 c1_0 c1_1 c1_2 c1_3 c1_4 B1 st2 R1_0 R1_1 hb2
  go_wp2_with fail
  go_ret
  exact ⟨by rw [Hv.out]; rfl, B2.out⟩
theorem ilok_any (o s ag : Int) (lo hi lo' hi' n m : Nat) (u v : Value) (K : List Lk) (T : List Ed) (w : World) (hK : K.length = n) (hT : T.length = m) (hr : Row 2 w lo hi u n (flat2 K)) (hr' : Row 3 w lo' hi' v m (flat T)) (hh : hi <= w.heap.size) (hh' : hi' <= w.heap.size) :
    Calls Try.prog 56 #[.agg #[.int .i64 o, .int .i64 s, .int .i64 ag, u, v]] w fun e w' => e = .returned (.bool (lokB o s ag K T)) /\ Below w.heap.size w w' := by
  cases ho : inB o 0 9
  · exact ilok_0 o s ag lo hi lo' hi' n m u v K T w hK hT hr hr' hh hh' ho (by unfold lokB; rw [ho]; simp)
  by_cases h1 : 1 <= s
  rotate_left
  · exact ilok_1 o s ag lo hi lo' hi' n m u v K T w hK hT hr hr' hh hh' ho h1 (by unfold lokB; rw [inB_false (x := s) (by omega)]; simp)
  by_cases h2 : s <= 1000000
  rotate_left
  · exact ilok_2 o s ag lo hi lo' hi' n m u v K T w hK hT hr hr' hh hh' ho h1 h2 (by unfold lokB; rw [inB_false (x := s) (by omega)]; simp)
  by_cases h3 : 0 <= ag
  rotate_left
  · exact ilok_3 o s ag lo hi lo' hi' n m u v K T w hK hT hr hr' hh hh' ho h1 h2 h3 (by unfold lokB; rw [inB_false (x := ag) (by omega)]; simp)
  by_cases h4 : ag <= 60
  rotate_left
  · exact ilok_4 o s ag lo hi lo' hi' n m u v K T w hK hT hr hr' hh hh' ho h1 h2 h3 h4 (by unfold lokB; rw [inB_false (x := ag) (by omega)]; simp)
  cases hl : lksB o K
  · exact ilok_5 o s ag lo hi lo' hi' n m u v K T w hK hT hr hr' hh hh' ho h1 h2 h3 h4 hl (by unfold lokB; rw [hl]; simp)
  cases ht : stsB T
  · exact ilok_6 o s ag lo hi lo' hi' n m u v K T w hK hT hr hr' hh hh' ho h1 h2 h3 h4 hl ht (by unfold lokB; rw [ht]; simp)
  · exact ilok_7 o s ag lo hi lo' hi' n m u v K T w hK hT hr hr' hh hh' ho h1 h2 h3 h4 hl ht (by unfold lokB; rw [ho, inB_true h1 h2, inB_true h3 h4, hl, ht]; rfl)
end Go.Proofs.Ytfpafjdakipccaa
