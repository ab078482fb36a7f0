/- Which of two advertisements is newer, by the model. -/
import Derived.Test.YtfpafjdakipccaaY6
namespace Go.Proofs.Ytfpafjdakipccaa
open Go.RowKit
theorem rs10_drew {w w1 : World} {b0 b1 b2 b3 b4 b5 b6 b7 b8 b9 o0 o1 o2 o3 o4 o5 o6 o7 o8 o9 : Nat} {v0 v1 v2 v3 v4 v5 v6 v7 v8 v9 : Value} (h : w1.cell? ⟨b0, o0, none⟩ = some v0 /\ w1.cell? ⟨b1, o1, none⟩ = some v1 /\ w1.cell? ⟨b2, o2, none⟩ = some v2 /\ w1.cell? ⟨b3, o3, none⟩ = some v3 /\ w1.cell? ⟨b4, o4, none⟩ = some v4 /\ w1.cell? ⟨b5, o5, none⟩ = some v5 /\ w1.cell? ⟨b6, o6, none⟩ = some v6 /\ w1.cell? ⟨b7, o7, none⟩ = some v7 /\ w1.cell? ⟨b8, o8, none⟩ = some v8 /\ w1.cell? ⟨b9, o9, none⟩ = some v9 /\ w.heap.size <= w1.heap.size /\ Below w.heap.size w w1) : w1.drew.cell? ⟨b0, o0, none⟩ = some v0 /\ w1.drew.cell? ⟨b1, o1, none⟩ = some v1 /\ w1.drew.cell? ⟨b2, o2, none⟩ = some v2 /\ w1.drew.cell? ⟨b3, o3, none⟩ = some v3 /\ w1.drew.cell? ⟨b4, o4, none⟩ = some v4 /\ w1.drew.cell? ⟨b5, o5, none⟩ = some v5 /\ w1.drew.cell? ⟨b6, o6, none⟩ = some v6 /\ w1.drew.cell? ⟨b7, o7, none⟩ = some v7 /\ w1.drew.cell? ⟨b8, o8, none⟩ = some v8 /\ w1.drew.cell? ⟨b9, o9, none⟩ = some v9 /\ w.heap.size <= w1.drew.heap.size /\ Below w.heap.size w w1.drew := by
  obtain ⟨h0, h1, h2, h3, h4, h5, h6, h7, h8, h9, hs, hB⟩ := h
  exact ⟨h0, h1, h2, h3, h4, h5, h6, h7, h8, h9, hs, hB.drew⟩
theorem newN_yes {o s ag s2 ag2 : Int} {K : List Lk} {T : List Ed} {K2 : List Lk} {T2 : List Ed} (h1 : lokB o s ag K T = true) (h2 : lokB o s2 ag2 K2 T2 = true) : newN o s ag o s2 ag2 K T K2 T2 = if s ≠ s2 then sgn (s - s2) else if lsum o s ag K T ≠ lsum o s2 ag2 K2 T2 then sgn (lsum o s ag K T - lsum o s2 ag2 K2 T2) else ageN ag ag2 := by
  unfold newN
  rw [if_pos ⟨h1, h2, rfl⟩]
set_option linter.unusedVariables false in
set_option maxRecDepth 100000 in
set_option maxHeartbeats 4000000 in
theorem snew_3 (o s ag o2 s2 ag2 : Int) (lo hi n m lo2 hi2 n2 m2 : Nat) (u v u2 v2 : Value) (K : List Lk) (T : List Ed) (K2 : List Lk) (T2 : List Ed) (w : World) (hK : K.length = n) (hT : T.length = m) (hK2 : K2.length = n2) (hT2 : T2.length = m2) (hr : LRow w lo hi u v n m (flat2 K) (flat T)) (hr2 : LRow w lo2 hi2 u2 v2 n2 m2 (flat2 K2) (flat T2)) (hh : hi <= w.heap.size) (hh2 : hi2 <= w.heap.size) (hv : lokB o s ag K T = true) (hv2 : lokB o2 s2 ag2 K2 T2 = true) (ho : o = o2) (hs : s ≠ s2) :
    Calls Try.prog 70 #[.agg #[.int .i64 o, .int .i64 s, .int .i64 ag, u, v], .agg #[.int .i64 o2, .int .i64 s2, .int .i64 ag2, u2, v2]] w fun e w' => e = .returned (.int .i64 (newN o s ag o2 s2 ag2 K T K2 T2)) /\ Below w.heap.size w w' := by
  subst ho
  have Hn : Hid (newN o s ag o s2 ag2 K T K2 T2 = sgn (s - s2)) := Lib.hid (by rw [newN_yes hv hv2, if_pos hs])
  have f1 : (s == s2) = false := by simp [hs]
  have f2 : (s != s2) = true := by simp [hs]
  have hbd := lok_bd hv
  have hbd2 := lok_bd hv2
  obtain ⟨oa, ob, sa, sb, ga, gb, _, _⟩ := hbd
  obtain ⟨oc, od, sc, sd, gc, gd, _, _⟩ := hbd2
  have hsm := lsum_bd hv
  have hsm2 := lsum_bd hv2
  obtain ⟨sum0, sum1⟩ := hsm
  obtain ⟨sum2, sum3⟩ := hsm2
  have Hs := Lib.hid hs
  clear hs
  have Hv := Lib.hid hv
  have Hv2 := Lib.hid hv2
  clear hv hv2
  have R0 := Lib.hid hr.fst
  have R1 := Lib.hid hr.snd
  have R2 := Lib.hid hr2.fst
  have R3 := Lib.hid hr2.snd
  have HK := Lib.hid hK
  have HT := Lib.hid hT
  have HK2 := Lib.hid hK2
  have HT2 := Lib.hid hT2
  obtain ⟨ad, cp, ae, cq, rfl, rfl⟩ := hr.slice
  obtain ⟨bd, dp, be, dq, rfl, rfl⟩ := hr2.slice
  clear hr hr2 hK hT hK2 hT2
  go_enter Try.func70, Try.ntmps70
  go_wp2_with fail
  go_at_call 48
  refine (slok_any o s ag lo hi lo hi n m _ _ K T _ HK.out HT.out (R0.out.below (B := w.heap.size) (by go_grown) (by omega)) (R1.out.below (B := w.heap.size) (by go_grown) (by omega)) (by first | omega | (simp; omega)) (by first | omega | (simp; omega))).mono ?_
  rw [Hv.out]
  rintro e v1 ⟨rfl, hb1⟩
  have sz1 : w.heap.size + 2 <= v1.heap.size := by have hh := hb1.size; simp at hh; omega
  have st1 : Below w.heap.size w v1 := Below.trans (by go_grown) (hb1.mono (by simp <;> omega))
  have c1_0 : v1.cell? ⟨w.heap.size, 0, none⟩ = some (.int .i64 o) := by rw [(bcell hb1).1 _ _ (by simp <;> omega), old_box (by simp <;> omega)]; first | (rw [new_at (by simp)]; rfl) | simp
  have c1_1 : v1.cell? ⟨w.heap.size, 1, none⟩ = some (.int .i64 s) := by rw [(bcell hb1).1 _ _ (by simp <;> omega), old_box (by simp <;> omega)]; first | (rw [new_at (by simp)]; rfl) | simp
  have c1_2 : v1.cell? ⟨w.heap.size, 2, none⟩ = some (.int .i64 ag) := by rw [(bcell hb1).1 _ _ (by simp <;> omega), old_box (by simp <;> omega)]; first | (rw [new_at (by simp)]; rfl) | simp
  have c1_3 : v1.cell? ⟨w.heap.size, 3, none⟩ = some (.slice ad n cp) := by rw [(bcell hb1).1 _ _ (by simp <;> omega), old_box (by simp <;> omega)]; first | (rw [new_at (by simp)]; rfl) | simp
  have c1_4 : v1.cell? ⟨w.heap.size, 4, none⟩ = some (.slice ae m cq) := by rw [(bcell hb1).1 _ _ (by simp <;> omega), old_box (by simp <;> omega)]; first | (rw [new_at (by simp)]; rfl) | simp
  have c1_5 : v1.cell? ⟨w.heap.size + 1, 0, none⟩ = some (.int .i64 o) := by rw [(bcell hb1).1 _ _ (by simp)]; first | (rw [new_at (by simp)]; rfl) | simp
  have c1_6 : v1.cell? ⟨w.heap.size + 1, 1, none⟩ = some (.int .i64 s2) := by rw [(bcell hb1).1 _ _ (by simp)]; first | (rw [new_at (by simp)]; rfl) | simp
  have c1_7 : v1.cell? ⟨w.heap.size + 1, 2, none⟩ = some (.int .i64 ag2) := by rw [(bcell hb1).1 _ _ (by simp)]; first | (rw [new_at (by simp)]; rfl) | simp
  have c1_8 : v1.cell? ⟨w.heap.size + 1, 3, none⟩ = some (.slice bd n2 dp) := by rw [(bcell hb1).1 _ _ (by simp)]; first | (rw [new_at (by simp)]; rfl) | simp
  have c1_9 : v1.cell? ⟨w.heap.size + 1, 4, none⟩ = some (.slice be m2 dq) := by rw [(bcell hb1).1 _ _ (by simp)]; first | (rw [new_at (by simp)]; rfl) | simp
  have B1 : Hid (Below w.heap.size w v1) := st1
  have R1_0 : Hid (Row 2 v1 (lo) (hi) (.slice ad n cp) n (flat2 K)) := R0.out.below st1 (by omega)
  have R1_1 : Hid (Row 3 v1 (lo) (hi) (.slice ae m cq) m (flat T)) := R1.out.below st1 (by omega)
  have R1_2 : Hid (Row 2 v1 (lo2) (hi2) (.slice bd n2 dp) n2 (flat2 K2)) := R2.out.below st1 (by omega)
  have R1_3 : Hid (Row 3 v1 (lo2) (hi2) (.slice be m2 dq) m2 (flat T2)) := R3.out.below st1 (by omega)
  have d1_0 : w.heap.size < v1.heap.size := by omega
  have e1_0 : w.heap.size ≠ v1.heap.size := by omega
  have d1_1 : w.heap.size + 1 < v1.heap.size := by omega
  have e1_1 : w.heap.size + 1 ≠ v1.heap.size := by omega
  clear st1 R0 R1 R2 R3 hb1
  go_wp2_with fail
  go_at_call 48
  refine (slok_any o s2 ag2 lo2 hi2 lo2 hi2 n2 m2 _ _ K2 T2 _ HK2.out HT2.out R1_2.out R1_3.out (by first | omega | (simp; omega)) (by first | omega | (simp; omega))).mono ?_
  rw [Hv2.out]
  rintro e v2 ⟨rfl, hb2⟩
  have sz2 : v1.heap.size <= v2.heap.size := hb2.size
  have st2 : Below v1.heap.size v1 v2 := hb2
  have c2_0 : v2.cell? ⟨w.heap.size, 0, none⟩ = some (.int .i64 o) := by rw [(bcell st2).1 _ _ (by omega)]; exact c1_0
  have c2_1 : v2.cell? ⟨w.heap.size, 1, none⟩ = some (.int .i64 s) := by rw [(bcell st2).1 _ _ (by omega)]; exact c1_1
  have c2_2 : v2.cell? ⟨w.heap.size, 2, none⟩ = some (.int .i64 ag) := by rw [(bcell st2).1 _ _ (by omega)]; exact c1_2
  have c2_3 : v2.cell? ⟨w.heap.size, 3, none⟩ = some (.slice ad n cp) := by rw [(bcell st2).1 _ _ (by omega)]; exact c1_3
  have c2_4 : v2.cell? ⟨w.heap.size, 4, none⟩ = some (.slice ae m cq) := by rw [(bcell st2).1 _ _ (by omega)]; exact c1_4
  have c2_5 : v2.cell? ⟨w.heap.size + 1, 0, none⟩ = some (.int .i64 o) := by rw [(bcell st2).1 _ _ (by omega)]; exact c1_5
  have c2_6 : v2.cell? ⟨w.heap.size + 1, 1, none⟩ = some (.int .i64 s2) := by rw [(bcell st2).1 _ _ (by omega)]; exact c1_6
  have c2_7 : v2.cell? ⟨w.heap.size + 1, 2, none⟩ = some (.int .i64 ag2) := by rw [(bcell st2).1 _ _ (by omega)]; exact c1_7
  have c2_8 : v2.cell? ⟨w.heap.size + 1, 3, none⟩ = some (.slice bd n2 dp) := by rw [(bcell st2).1 _ _ (by omega)]; exact c1_8
  have c2_9 : v2.cell? ⟨w.heap.size + 1, 4, none⟩ = some (.slice be m2 dq) := by rw [(bcell st2).1 _ _ (by omega)]; exact c1_9
  have B2 : Hid (Below w.heap.size w v2) := B1.out.trans (st2.mono (by omega))
  have R2_0 : Hid (Row 2 v2 (lo) (hi) (.slice ad n cp) n (flat2 K)) := R1_0.out.below st2 (by omega)
  have R2_1 : Hid (Row 3 v2 (lo) (hi) (.slice ae m cq) m (flat T)) := R1_1.out.below st2 (by omega)
  have R2_2 : Hid (Row 2 v2 (lo2) (hi2) (.slice bd n2 dp) n2 (flat2 K2)) := R1_2.out.below st2 (by omega)
  have R2_3 : Hid (Row 3 v2 (lo2) (hi2) (.slice be m2 dq) m2 (flat T2)) := R1_3.out.below st2 (by omega)
  have d2_0 : w.heap.size < v2.heap.size := by omega
  have e2_0 : w.heap.size ≠ v2.heap.size := by omega
  have d2_1 : w.heap.size + 1 < v2.heap.size := by omega
  have e2_1 : w.heap.size + 1 ≠ v2.heap.size := by omega
  clear d1_0 e1_0 d1_1 e1_1 c1_0 c1_1 c1_2 c1_3 c1_4 c1_5 c1_6 c1_7 c1_8 c1_9 B1 st2 R1_0 R1_1 R1_2 R1_3 hb2
  go_wp2_with fail
  go_at_call 99
  refine (sign_any (s - s2) _).mono ?_
  rintro e wz ⟨rfl, rfl⟩
  go_wp2_with fail
  go_ret
  exact ⟨by rw [Hn.out]; rfl, B2.out⟩
set_option linter.unusedVariables false in
set_option maxRecDepth 100000 in
set_option maxHeartbeats 4000000 in
theorem snew_4 (o s ag o2 s2 ag2 : Int) (lo hi n m lo2 hi2 n2 m2 : Nat) (u v u2 v2 : Value) (K : List Lk) (T : List Ed) (K2 : List Lk) (T2 : List Ed) (w : World) (hK : K.length = n) (hT : T.length = m) (hK2 : K2.length = n2) (hT2 : T2.length = m2) (hr : LRow w lo hi u v n m (flat2 K) (flat T)) (hr2 : LRow w lo2 hi2 u2 v2 n2 m2 (flat2 K2) (flat T2)) (hh : hi <= w.heap.size) (hh2 : hi2 <= w.heap.size) (hv : lokB o s ag K T = true) (hv2 : lokB o2 s2 ag2 K2 T2 = true) (ho : o = o2) (hs : s = s2) (hd : lsum o s ag K T ≠ lsum o2 s2 ag2 K2 T2) :
    Calls Try.prog 70 #[.agg #[.int .i64 o, .int .i64 s, .int .i64 ag, u, v], .agg #[.int .i64 o2, .int .i64 s2, .int .i64 ag2, u2, v2]] w fun e w' => e = .returned (.int .i64 (newN o s ag o2 s2 ag2 K T K2 T2)) /\ Below w.heap.size w w' := by
  subst ho
  subst hs
  have HN : newN o s ag o s ag2 K T K2 T2 = sgn (lsum o s ag K T - lsum o s ag2 K2 T2) := by rw [newN_yes hv hv2, if_neg (by simp), if_pos hd]
  have hbd := lok_bd hv
  have hbd2 := lok_bd hv2
  obtain ⟨oa, ob, sa, sb, ga, gb, _, _⟩ := hbd
  obtain ⟨oc, od, sc, sd, gc, gd, _, _⟩ := hbd2
  have hsm := lsum_bd hv
  have hsm2 := lsum_bd hv2
  obtain ⟨sum0, sum1⟩ := hsm
  obtain ⟨sum2, sum3⟩ := hsm2
  obtain ⟨x, hx⟩ : ∃ x, x = lsum o s ag K T := ⟨_, rfl⟩
  obtain ⟨y, hy⟩ : ∃ y, y = lsum o s ag2 K2 T2 := ⟨_, rfl⟩
  rw [<- hx, <- hy] at HN
  rw [<- hx] at sum0 sum1
  rw [<- hy] at sum2 sum3
  rw [<- hx, <- hy] at hd
  have f1 : (x == y) = false := by simp [hd]
  have f2 : (x != y) = true := by simp [hd]
  have we : IntKind.i64.wrap (x - y) = x - y := IntWalk.i64_in _ (by omega)
  have Hd := Lib.hid hd
  have HX := Lib.hid hx
  have HY := Lib.hid hy
  have Hn := Lib.hid HN
  clear hd hx hy HN
  have Hv := Lib.hid hv
  have Hv2 := Lib.hid hv2
  clear hv hv2
  have R0 := Lib.hid hr.fst
  have R1 := Lib.hid hr.snd
  have R2 := Lib.hid hr2.fst
  have R3 := Lib.hid hr2.snd
  have HK := Lib.hid hK
  have HT := Lib.hid hT
  have HK2 := Lib.hid hK2
  have HT2 := Lib.hid hT2
  obtain ⟨ad, cp, ae, cq, rfl, rfl⟩ := hr.slice
  obtain ⟨bd, dp, be, dq, rfl, rfl⟩ := hr2.slice
  clear hr hr2 hK hT hK2 hT2
  go_enter Try.func70, Try.ntmps70
  go_wp2_with fail
  go_at_call 48
  refine (slok_any o s ag lo hi lo hi n m _ _ K T _ HK.out HT.out (R0.out.below (B := w.heap.size) (by go_grown) (by omega)) (R1.out.below (B := w.heap.size) (by go_grown) (by omega)) (by first | omega | (simp; omega)) (by first | omega | (simp; omega))).mono ?_
  rw [Hv.out]
  rintro e v1 ⟨rfl, hb1⟩
  have sz1 : w.heap.size + 2 <= v1.heap.size := by have hh := hb1.size; simp at hh; omega
  have st1 : Below w.heap.size w v1 := Below.trans (by go_grown) (hb1.mono (by simp <;> omega))
  have c1_0 : v1.cell? ⟨w.heap.size, 0, none⟩ = some (.int .i64 o) := by rw [(bcell hb1).1 _ _ (by simp <;> omega), old_box (by simp <;> omega)]; first | (rw [new_at (by simp)]; rfl) | simp
  have c1_1 : v1.cell? ⟨w.heap.size, 1, none⟩ = some (.int .i64 s) := by rw [(bcell hb1).1 _ _ (by simp <;> omega), old_box (by simp <;> omega)]; first | (rw [new_at (by simp)]; rfl) | simp
  have c1_2 : v1.cell? ⟨w.heap.size, 2, none⟩ = some (.int .i64 ag) := by rw [(bcell hb1).1 _ _ (by simp <;> omega), old_box (by simp <;> omega)]; first | (rw [new_at (by simp)]; rfl) | simp
  have c1_3 : v1.cell? ⟨w.heap.size, 3, none⟩ = some (.slice ad n cp) := by rw [(bcell hb1).1 _ _ (by simp <;> omega), old_box (by simp <;> omega)]; first | (rw [new_at (by simp)]; rfl) | simp
  have c1_4 : v1.cell? ⟨w.heap.size, 4, none⟩ = some (.slice ae m cq) := by rw [(bcell hb1).1 _ _ (by simp <;> omega), old_box (by simp <;> omega)]; first | (rw [new_at (by simp)]; rfl) | simp
  have c1_5 : v1.cell? ⟨w.heap.size + 1, 0, none⟩ = some (.int .i64 o) := by rw [(bcell hb1).1 _ _ (by simp)]; first | (rw [new_at (by simp)]; rfl) | simp
  have c1_6 : v1.cell? ⟨w.heap.size + 1, 1, none⟩ = some (.int .i64 s) := by rw [(bcell hb1).1 _ _ (by simp)]; first | (rw [new_at (by simp)]; rfl) | simp
  have c1_7 : v1.cell? ⟨w.heap.size + 1, 2, none⟩ = some (.int .i64 ag2) := by rw [(bcell hb1).1 _ _ (by simp)]; first | (rw [new_at (by simp)]; rfl) | simp
  have c1_8 : v1.cell? ⟨w.heap.size + 1, 3, none⟩ = some (.slice bd n2 dp) := by rw [(bcell hb1).1 _ _ (by simp)]; first | (rw [new_at (by simp)]; rfl) | simp
  have c1_9 : v1.cell? ⟨w.heap.size + 1, 4, none⟩ = some (.slice be m2 dq) := by rw [(bcell hb1).1 _ _ (by simp)]; first | (rw [new_at (by simp)]; rfl) | simp
  have B1 : Hid (Below w.heap.size w v1) := st1
  have R1_0 : Hid (Row 2 v1 (lo) (hi) (.slice ad n cp) n (flat2 K)) := R0.out.below st1 (by omega)
  have R1_1 : Hid (Row 3 v1 (lo) (hi) (.slice ae m cq) m (flat T)) := R1.out.below st1 (by omega)
  have R1_2 : Hid (Row 2 v1 (lo2) (hi2) (.slice bd n2 dp) n2 (flat2 K2)) := R2.out.below st1 (by omega)
  have R1_3 : Hid (Row 3 v1 (lo2) (hi2) (.slice be m2 dq) m2 (flat T2)) := R3.out.below st1 (by omega)
  have d1_0 : w.heap.size < v1.heap.size := by omega
  have e1_0 : w.heap.size ≠ v1.heap.size := by omega
  have d1_1 : w.heap.size + 1 < v1.heap.size := by omega
  have e1_1 : w.heap.size + 1 ≠ v1.heap.size := by omega
  clear st1 R0 R1 R2 R3 hb1
  go_wp2_with fail
  go_at_call 48
  refine (slok_any o s ag2 lo2 hi2 lo2 hi2 n2 m2 _ _ K2 T2 _ HK2.out HT2.out R1_2.out R1_3.out (by first | omega | (simp; omega)) (by first | omega | (simp; omega))).mono ?_
  rw [Hv2.out]
  rintro e v2 ⟨rfl, hb2⟩
  have sz2 : v1.heap.size <= v2.heap.size := hb2.size
  have st2 : Below v1.heap.size v1 v2 := hb2
  have c2_0 : v2.cell? ⟨w.heap.size, 0, none⟩ = some (.int .i64 o) := by rw [(bcell st2).1 _ _ (by omega)]; exact c1_0
  have c2_1 : v2.cell? ⟨w.heap.size, 1, none⟩ = some (.int .i64 s) := by rw [(bcell st2).1 _ _ (by omega)]; exact c1_1
  have c2_2 : v2.cell? ⟨w.heap.size, 2, none⟩ = some (.int .i64 ag) := by rw [(bcell st2).1 _ _ (by omega)]; exact c1_2
  have c2_3 : v2.cell? ⟨w.heap.size, 3, none⟩ = some (.slice ad n cp) := by rw [(bcell st2).1 _ _ (by omega)]; exact c1_3
  have c2_4 : v2.cell? ⟨w.heap.size, 4, none⟩ = some (.slice ae m cq) := by rw [(bcell st2).1 _ _ (by omega)]; exact c1_4
  have c2_5 : v2.cell? ⟨w.heap.size + 1, 0, none⟩ = some (.int .i64 o) := by rw [(bcell st2).1 _ _ (by omega)]; exact c1_5
  have c2_6 : v2.cell? ⟨w.heap.size + 1, 1, none⟩ = some (.int .i64 s) := by rw [(bcell st2).1 _ _ (by omega)]; exact c1_6
  have c2_7 : v2.cell? ⟨w.heap.size + 1, 2, none⟩ = some (.int .i64 ag2) := by rw [(bcell st2).1 _ _ (by omega)]; exact c1_7
  have c2_8 : v2.cell? ⟨w.heap.size + 1, 3, none⟩ = some (.slice bd n2 dp) := by rw [(bcell st2).1 _ _ (by omega)]; exact c1_8
  have c2_9 : v2.cell? ⟨w.heap.size + 1, 4, none⟩ = some (.slice be m2 dq) := by rw [(bcell st2).1 _ _ (by omega)]; exact c1_9
  have B2 : Hid (Below w.heap.size w v2) := B1.out.trans (st2.mono (by omega))
  have R2_0 : Hid (Row 2 v2 (lo) (hi) (.slice ad n cp) n (flat2 K)) := R1_0.out.below st2 (by omega)
  have R2_1 : Hid (Row 3 v2 (lo) (hi) (.slice ae m cq) m (flat T)) := R1_1.out.below st2 (by omega)
  have R2_2 : Hid (Row 2 v2 (lo2) (hi2) (.slice bd n2 dp) n2 (flat2 K2)) := R1_2.out.below st2 (by omega)
  have R2_3 : Hid (Row 3 v2 (lo2) (hi2) (.slice be m2 dq) m2 (flat T2)) := R1_3.out.below st2 (by omega)
  have d2_0 : w.heap.size < v2.heap.size := by omega
  have e2_0 : w.heap.size ≠ v2.heap.size := by omega
  have d2_1 : w.heap.size + 1 < v2.heap.size := by omega
  have e2_1 : w.heap.size + 1 ≠ v2.heap.size := by omega
  clear d1_0 e1_0 d1_1 e1_1 c1_0 c1_1 c1_2 c1_3 c1_4 c1_5 c1_6 c1_7 c1_8 c1_9 B1 st2 R1_0 R1_1 R1_2 R1_3 hb2
  have HB1 := B2
  have RR0 := R2_0
  have RR1 := R2_1
  have RR2 := R2_2
  have RR3 := R2_3
  go_wp2_with fail
  refine wp_region_held_drew (S := (fun w' => w'.cell? ⟨w.heap.size, 0, none⟩ = some (.int .i64 o) /\ w'.cell? ⟨w.heap.size, 1, none⟩ = some (.int .i64 s) /\ w'.cell? ⟨w.heap.size, 2, none⟩ = some (.int .i64 ag) /\ w'.cell? ⟨w.heap.size, 3, none⟩ = some (.slice ad n cp) /\ w'.cell? ⟨w.heap.size, 4, none⟩ = some (.slice ae m cq) /\ w'.cell? ⟨w.heap.size + 1, 0, none⟩ = some (.int .i64 o) /\ w'.cell? ⟨w.heap.size + 1, 1, none⟩ = some (.int .i64 s) /\ w'.cell? ⟨w.heap.size + 1, 2, none⟩ = some (.int .i64 ag2) /\ w'.cell? ⟨w.heap.size + 1, 3, none⟩ = some (.slice bd n2 dp) /\ w'.cell? ⟨w.heap.size + 1, 4, none⟩ = some (.slice be m2 dq) /\ v2.heap.size <= w'.heap.size /\ Below v2.heap.size v2 w')) (by kernel_rfl) ?_ (fun hHeld => ?_)
  · exact rs10_start c2_0 c2_1 c2_2 c2_3 c2_4 c2_5 c2_6 c2_7 c2_8 c2_9 (Below.refl _ _)
  refine step_read 0 31 rfl rfl (by kernel_rfl) (by kernel_rfl) (by kernel_rfl) (fun _ _ _ h => h) (by rfl) (v := ?_) (fun w hSw => ?_) (by assumption) ?_; rotate_left; (focus ((try dsimp only at hSw); go_simp; first | done | exact rfl)); simp only [List.set]
  refine step_read 2 33 rfl rfl (by kernel_rfl) (by kernel_rfl) (by kernel_rfl) (fun _ _ _ h => h) (by rfl) (v := ?_) (fun w hSw => ?_) (by assumption) ?_; rotate_left; (focus ((try dsimp only at hSw); go_simp; first | done | exact rfl)); simp only [List.set]
  refine wpAnyH_ready (rs := [1]) (by kernel_rfl) (by simp) ?_
  refine AllReadyH.cons rfl (fun Kc hK => ?_) (AllReadyH.nil)
  go_simp
  go_at_call 79
  have hsz1 := (rs10_out hHeld).1
  refine (slsum_any o s ag lo hi lo hi n m _ _ K T _ HK.out HT.out (RR0.out.below (rs10_out (by assumption)).2 (by omega)) (RR1.out.below (rs10_out (by assumption)).2 (by omega)) (by omega) (by omega)).mono ?_
  rw [<- HX.out]
  rintro e w1 ⟨rfl, hb1⟩
  have sz1 := hb1.size
  refine hK.out _ _ ?_ (fun hHeld => ?_)
  · exact rs10_keep (by omega) (by omega) (by omega) (by omega) (by omega) (by omega) (by omega) (by omega) (by omega) (by omega) (hb1.mono (by omega)) (by assumption)
  clear hK Kc
  refine wpAnyH_ready (rs := [3]) (by kernel_rfl) (by simp) ?_
  refine AllReadyH.cons rfl (fun Kc hK => ?_) (AllReadyH.nil)
  go_simp
  go_at_call 79
  have hsz2 := (rs10_out hHeld).1
  refine (slsum_any o s ag2 lo2 hi2 lo2 hi2 n2 m2 _ _ K2 T2 _ HK2.out HT2.out (RR2.out.below (rs10_out (by assumption)).2 (by omega)) (RR3.out.below (rs10_out (by assumption)).2 (by omega)) (by omega) (by omega)).mono ?_
  rw [<- HY.out]
  rintro e w2 ⟨rfl, hb2⟩
  have sz2 := hb2.size
  refine hK.out _ _ ?_ (fun hHeld => ?_)
  · exact rs10_keep (by omega) (by omega) (by omega) (by omega) (by omega) (by omega) (by omega) (by omega) (by omega) (by omega) (hb2.mono (by omega)) (by assumption)
  clear hK Kc
  refine step_read 4 35 rfl rfl (by kernel_rfl) (by kernel_rfl) (by kernel_rfl) (fun _ _ _ h => h) (by rfl) (v := ?_) (fun w hSw => ?_) (by assumption) ?_; rotate_left; (focus ((try dsimp only at hSw); go_simp; first | done | exact rfl)); simp only [List.set]
  refine wpAnyH_done (by kernel_rfl) ?_ _
  go_wp2_with fail
  refine wp_region_held_drew (S := (fun w' => w'.cell? ⟨w.heap.size, 0, none⟩ = some (.int .i64 o) /\ w'.cell? ⟨w.heap.size, 1, none⟩ = some (.int .i64 s) /\ w'.cell? ⟨w.heap.size, 2, none⟩ = some (.int .i64 ag) /\ w'.cell? ⟨w.heap.size, 3, none⟩ = some (.slice ad n cp) /\ w'.cell? ⟨w.heap.size, 4, none⟩ = some (.slice ae m cq) /\ w'.cell? ⟨w.heap.size + 1, 0, none⟩ = some (.int .i64 o) /\ w'.cell? ⟨w.heap.size + 1, 1, none⟩ = some (.int .i64 s) /\ w'.cell? ⟨w.heap.size + 1, 2, none⟩ = some (.int .i64 ag2) /\ w'.cell? ⟨w.heap.size + 1, 3, none⟩ = some (.slice bd n2 dp) /\ w'.cell? ⟨w.heap.size + 1, 4, none⟩ = some (.slice be m2 dq) /\ v2.heap.size <= w'.heap.size /\ Below v2.heap.size v2 w')) (by kernel_rfl) ?_ (fun hHeld => ?_)
  · exact rs10_drew (by assumption)
  refine step_read 0 36 rfl rfl (by kernel_rfl) (by kernel_rfl) (by kernel_rfl) (fun _ _ _ h => h) (by rfl) (v := ?_) (fun w hSw => ?_) (by assumption) ?_; rotate_left; (focus ((try dsimp only at hSw); go_simp; first | done | exact rfl)); simp only [List.set]
  refine step_read 2 38 rfl rfl (by kernel_rfl) (by kernel_rfl) (by kernel_rfl) (fun _ _ _ h => h) (by rfl) (v := ?_) (fun w hSw => ?_) (by assumption) ?_; rotate_left; (focus ((try dsimp only at hSw); go_simp; first | done | exact rfl)); simp only [List.set]
  refine wpAnyH_ready (rs := [1]) (by kernel_rfl) (by simp) ?_
  refine AllReadyH.cons rfl (fun Kc hK => ?_) (AllReadyH.nil)
  go_simp
  go_at_call 79
  have hsz11 := (rs10_out hHeld).1
  refine (slsum_any o s ag lo hi lo hi n m _ _ K T _ HK.out HT.out (RR0.out.below (rs10_out (by assumption)).2 (by omega)) (RR1.out.below (rs10_out (by assumption)).2 (by omega)) (by omega) (by omega)).mono ?_
  rw [<- HX.out]
  rintro e w11 ⟨rfl, hb11⟩
  have sz11 := hb11.size
  refine hK.out _ _ ?_ (fun hHeld => ?_)
  · exact rs10_keep (by omega) (by omega) (by omega) (by omega) (by omega) (by omega) (by omega) (by omega) (by omega) (by omega) (hb11.mono (by omega)) (by assumption)
  clear hK Kc
  refine wpAnyH_ready (rs := [3]) (by kernel_rfl) (by simp) ?_
  refine AllReadyH.cons rfl (fun Kc hK => ?_) (AllReadyH.nil)
  go_simp
  go_at_call 79
  have hsz12 := (rs10_out hHeld).1
  refine (slsum_any o s ag2 lo2 hi2 lo2 hi2 n2 m2 _ _ K2 T2 _ HK2.out HT2.out (RR2.out.below (rs10_out (by assumption)).2 (by omega)) (RR3.out.below (rs10_out (by assumption)).2 (by omega)) (by omega) (by omega)).mono ?_
  rw [<- HY.out]
  rintro e w12 ⟨rfl, hb12⟩
  have sz12 := hb12.size
  refine hK.out _ _ ?_ (fun hHeld => ?_)
  · exact rs10_keep (by omega) (by omega) (by omega) (by omega) (by omega) (by omega) (by omega) (by omega) (by omega) (by omega) (hb12.mono (by omega)) (by assumption)
  clear hK Kc
  refine step_read 4 40 rfl rfl (by kernel_rfl) (by kernel_rfl) (by kernel_rfl) (fun _ _ _ h => h) (by rfl) (v := ?_) (fun w hSw => ?_) (by assumption) ?_; rotate_left; (focus ((try dsimp only at hSw); go_simp; first | done | exact rfl)); simp only [List.set]
  refine wpAnyH_ready (rs := [5]) (by kernel_rfl) (by simp) ?_
  refine AllReadyH.cons rfl (fun Kc hK => ?_) (AllReadyH.nil)
  go_simp
  go_at_call 99
  refine (sign_any (x - y) _).mono ?_
  rintro e w13 ⟨rfl, rfl⟩
  refine hK.out _ _ ?_ (fun hHeld => ?_)
  · assumption
  clear hK Kc
  refine step_read 6 4 rfl rfl (by kernel_rfl) (by kernel_rfl) (by kernel_rfl) (fun _ _ _ h => h) (by rfl) (v := ?_) (fun w hSw => ?_) (by assumption) ?_; rotate_left; (focus ((try dsimp only at hSw); go_simp; first | done | exact rfl)); simp only [List.set]
  refine wpAnyH_done (by kernel_rfl) ?_ _
  go_wp2_with fail
  go_ret
  exact ⟨by rw [Hn.out]; rfl, HB1.out.trans ((rs10_out hHeld).2.mono (by omega))⟩
set_option linter.unusedVariables false in
set_option maxRecDepth 100000 in
set_option maxHeartbeats 4000000 in
theorem snew_5 (o s ag o2 s2 ag2 : Int) (lo hi n m lo2 hi2 n2 m2 : Nat) (u v u2 v2 : Value) (K : List Lk) (T : List Ed) (K2 : List Lk) (T2 : List Ed) (w : World) (hK : K.length = n) (hT : T.length = m) (hK2 : K2.length = n2) (hT2 : T2.length = m2) (hr : LRow w lo hi u v n m (flat2 K) (flat T)) (hr2 : LRow w lo2 hi2 u2 v2 n2 m2 (flat2 K2) (flat T2)) (hh : hi <= w.heap.size) (hh2 : hi2 <= w.heap.size) (hv : lokB o s ag K T = true) (hv2 : lokB o2 s2 ag2 K2 T2 = true) (ho : o = o2) (hs : s = s2) (hd : lsum o s ag K T = lsum o2 s2 ag2 K2 T2) (ha : ag = ag2) :
    Calls Try.prog 70 #[.agg #[.int .i64 o, .int .i64 s, .int .i64 ag, u, v], .agg #[.int .i64 o2, .int .i64 s2, .int .i64 ag2, u2, v2]] w fun e w' => e = .returned (.int .i64 (newN o s ag o2 s2 ag2 K T K2 T2)) /\ Below w.heap.size w w' := by
  subst ho
  subst hs
  have HN : newN o s ag o s ag2 K T K2 T2 = 0 := by rw [newN_yes hv hv2, if_neg (by simp), if_neg (by simp [hd])]; unfold ageN; rw [if_pos ha]
  have hbd := lok_bd hv
  have hbd2 := lok_bd hv2
  obtain ⟨oa, ob, sa, sb, ga, gb, _, _⟩ := hbd
  obtain ⟨oc, od, sc, sd, gc, gd, _, _⟩ := hbd2
  have hsm := lsum_bd hv
  have hsm2 := lsum_bd hv2
  obtain ⟨sum0, sum1⟩ := hsm
  obtain ⟨sum2, sum3⟩ := hsm2
  obtain ⟨x, hx⟩ : ∃ x, x = lsum o s ag K T := ⟨_, rfl⟩
  have hy : x = lsum o s ag2 K2 T2 := by rw [hx]; exact hd
  have HX := Lib.hid hx
  have HY := Lib.hid hy
  have Hn := Lib.hid HN
  clear hd hx hy HN sum0 sum1 sum2 sum3
  subst ha
  have Hv := Lib.hid hv
  have Hv2 := Lib.hid hv2
  clear hv hv2
  have R0 := Lib.hid hr.fst
  have R1 := Lib.hid hr.snd
  have R2 := Lib.hid hr2.fst
  have R3 := Lib.hid hr2.snd
  have HK := Lib.hid hK
  have HT := Lib.hid hT
  have HK2 := Lib.hid hK2
  have HT2 := Lib.hid hT2
  obtain ⟨ad, cp, ae, cq, rfl, rfl⟩ := hr.slice
  obtain ⟨bd, dp, be, dq, rfl, rfl⟩ := hr2.slice
  clear hr hr2 hK hT hK2 hT2
  go_enter Try.func70, Try.ntmps70
  go_wp2_with fail
  go_at_call 48
  refine (slok_any o s ag lo hi lo hi n m _ _ K T _ HK.out HT.out (R0.out.below (B := w.heap.size) (by go_grown) (by omega)) (R1.out.below (B := w.heap.size) (by go_grown) (by omega)) (by first | omega | (simp; omega)) (by first | omega | (simp; omega))).mono ?_
  rw [Hv.out]
  rintro e v1 ⟨rfl, hb1⟩
  have sz1 : w.heap.size + 2 <= v1.heap.size := by have hh := hb1.size; simp at hh; omega
  have st1 : Below w.heap.size w v1 := Below.trans (by go_grown) (hb1.mono (by simp <;> omega))
  have c1_0 : v1.cell? ⟨w.heap.size, 0, none⟩ = some (.int .i64 o) := by rw [(bcell hb1).1 _ _ (by simp <;> omega), old_box (by simp <;> omega)]; first | (rw [new_at (by simp)]; rfl) | simp
  have c1_1 : v1.cell? ⟨w.heap.size, 1, none⟩ = some (.int .i64 s) := by rw [(bcell hb1).1 _ _ (by simp <;> omega), old_box (by simp <;> omega)]; first | (rw [new_at (by simp)]; rfl) | simp
  have c1_2 : v1.cell? ⟨w.heap.size, 2, none⟩ = some (.int .i64 ag) := by rw [(bcell hb1).1 _ _ (by simp <;> omega), old_box (by simp <;> omega)]; first | (rw [new_at (by simp)]; rfl) | simp
  have c1_3 : v1.cell? ⟨w.heap.size, 3, none⟩ = some (.slice ad n cp) := by rw [(bcell hb1).1 _ _ (by simp <;> omega), old_box (by simp <;> omega)]; first | (rw [new_at (by simp)]; rfl) | simp
  have c1_4 : v1.cell? ⟨w.heap.size, 4, none⟩ = some (.slice ae m cq) := by rw [(bcell hb1).1 _ _ (by simp <;> omega), old_box (by simp <;> omega)]; first | (rw [new_at (by simp)]; rfl) | simp
  have c1_5 : v1.cell? ⟨w.heap.size + 1, 0, none⟩ = some (.int .i64 o) := by rw [(bcell hb1).1 _ _ (by simp)]; first | (rw [new_at (by simp)]; rfl) | simp
  have c1_6 : v1.cell? ⟨w.heap.size + 1, 1, none⟩ = some (.int .i64 s) := by rw [(bcell hb1).1 _ _ (by simp)]; first | (rw [new_at (by simp)]; rfl) | simp
  have c1_7 : v1.cell? ⟨w.heap.size + 1, 2, none⟩ = some (.int .i64 ag) := by rw [(bcell hb1).1 _ _ (by simp)]; first | (rw [new_at (by simp)]; rfl) | simp
  have c1_8 : v1.cell? ⟨w.heap.size + 1, 3, none⟩ = some (.slice bd n2 dp) := by rw [(bcell hb1).1 _ _ (by simp)]; first | (rw [new_at (by simp)]; rfl) | simp
  have c1_9 : v1.cell? ⟨w.heap.size + 1, 4, none⟩ = some (.slice be m2 dq) := by rw [(bcell hb1).1 _ _ (by simp)]; first | (rw [new_at (by simp)]; rfl) | simp
  have B1 : Hid (Below w.heap.size w v1) := st1
  have R1_0 : Hid (Row 2 v1 (lo) (hi) (.slice ad n cp) n (flat2 K)) := R0.out.below st1 (by omega)
  have R1_1 : Hid (Row 3 v1 (lo) (hi) (.slice ae m cq) m (flat T)) := R1.out.below st1 (by omega)
  have R1_2 : Hid (Row 2 v1 (lo2) (hi2) (.slice bd n2 dp) n2 (flat2 K2)) := R2.out.below st1 (by omega)
  have R1_3 : Hid (Row 3 v1 (lo2) (hi2) (.slice be m2 dq) m2 (flat T2)) := R3.out.below st1 (by omega)
  have d1_0 : w.heap.size < v1.heap.size := by omega
  have e1_0 : w.heap.size ≠ v1.heap.size := by omega
  have d1_1 : w.heap.size + 1 < v1.heap.size := by omega
  have e1_1 : w.heap.size + 1 ≠ v1.heap.size := by omega
  clear st1 R0 R1 R2 R3 hb1
  go_wp2_with fail
  go_at_call 48
  refine (slok_any o s ag lo2 hi2 lo2 hi2 n2 m2 _ _ K2 T2 _ HK2.out HT2.out R1_2.out R1_3.out (by first | omega | (simp; omega)) (by first | omega | (simp; omega))).mono ?_
  rw [Hv2.out]
  rintro e v2 ⟨rfl, hb2⟩
  have sz2 : v1.heap.size <= v2.heap.size := hb2.size
  have st2 : Below v1.heap.size v1 v2 := hb2
  have c2_0 : v2.cell? ⟨w.heap.size, 0, none⟩ = some (.int .i64 o) := by rw [(bcell st2).1 _ _ (by omega)]; exact c1_0
  have c2_1 : v2.cell? ⟨w.heap.size, 1, none⟩ = some (.int .i64 s) := by rw [(bcell st2).1 _ _ (by omega)]; exact c1_1
  have c2_2 : v2.cell? ⟨w.heap.size, 2, none⟩ = some (.int .i64 ag) := by rw [(bcell st2).1 _ _ (by omega)]; exact c1_2
  have c2_3 : v2.cell? ⟨w.heap.size, 3, none⟩ = some (.slice ad n cp) := by rw [(bcell st2).1 _ _ (by omega)]; exact c1_3
  have c2_4 : v2.cell? ⟨w.heap.size, 4, none⟩ = some (.slice ae m cq) := by rw [(bcell st2).1 _ _ (by omega)]; exact c1_4
  have c2_5 : v2.cell? ⟨w.heap.size + 1, 0, none⟩ = some (.int .i64 o) := by rw [(bcell st2).1 _ _ (by omega)]; exact c1_5
  have c2_6 : v2.cell? ⟨w.heap.size + 1, 1, none⟩ = some (.int .i64 s) := by rw [(bcell st2).1 _ _ (by omega)]; exact c1_6
  have c2_7 : v2.cell? ⟨w.heap.size + 1, 2, none⟩ = some (.int .i64 ag) := by rw [(bcell st2).1 _ _ (by omega)]; exact c1_7
  have c2_8 : v2.cell? ⟨w.heap.size + 1, 3, none⟩ = some (.slice bd n2 dp) := by rw [(bcell st2).1 _ _ (by omega)]; exact c1_8
  have c2_9 : v2.cell? ⟨w.heap.size + 1, 4, none⟩ = some (.slice be m2 dq) := by rw [(bcell st2).1 _ _ (by omega)]; exact c1_9
  have B2 : Hid (Below w.heap.size w v2) := B1.out.trans (st2.mono (by omega))
  have R2_0 : Hid (Row 2 v2 (lo) (hi) (.slice ad n cp) n (flat2 K)) := R1_0.out.below st2 (by omega)
  have R2_1 : Hid (Row 3 v2 (lo) (hi) (.slice ae m cq) m (flat T)) := R1_1.out.below st2 (by omega)
  have R2_2 : Hid (Row 2 v2 (lo2) (hi2) (.slice bd n2 dp) n2 (flat2 K2)) := R1_2.out.below st2 (by omega)
  have R2_3 : Hid (Row 3 v2 (lo2) (hi2) (.slice be m2 dq) m2 (flat T2)) := R1_3.out.below st2 (by omega)
  have d2_0 : w.heap.size < v2.heap.size := by omega
  have e2_0 : w.heap.size ≠ v2.heap.size := by omega
  have d2_1 : w.heap.size + 1 < v2.heap.size := by omega
  have e2_1 : w.heap.size + 1 ≠ v2.heap.size := by omega
  clear d1_0 e1_0 d1_1 e1_1 c1_0 c1_1 c1_2 c1_3 c1_4 c1_5 c1_6 c1_7 c1_8 c1_9 B1 st2 R1_0 R1_1 R1_2 R1_3 hb2
  have HB1 := B2
  have RR0 := R2_0
  have RR1 := R2_1
  have RR2 := R2_2
  have RR3 := R2_3
  go_wp2_with fail
  refine wp_region_held_drew (S := (fun w' => w'.cell? ⟨w.heap.size, 0, none⟩ = some (.int .i64 o) /\ w'.cell? ⟨w.heap.size, 1, none⟩ = some (.int .i64 s) /\ w'.cell? ⟨w.heap.size, 2, none⟩ = some (.int .i64 ag) /\ w'.cell? ⟨w.heap.size, 3, none⟩ = some (.slice ad n cp) /\ w'.cell? ⟨w.heap.size, 4, none⟩ = some (.slice ae m cq) /\ w'.cell? ⟨w.heap.size + 1, 0, none⟩ = some (.int .i64 o) /\ w'.cell? ⟨w.heap.size + 1, 1, none⟩ = some (.int .i64 s) /\ w'.cell? ⟨w.heap.size + 1, 2, none⟩ = some (.int .i64 ag) /\ w'.cell? ⟨w.heap.size + 1, 3, none⟩ = some (.slice bd n2 dp) /\ w'.cell? ⟨w.heap.size + 1, 4, none⟩ = some (.slice be m2 dq) /\ v2.heap.size <= w'.heap.size /\ Below v2.heap.size v2 w')) (by kernel_rfl) ?_ (fun hHeld => ?_)
  · exact rs10_start c2_0 c2_1 c2_2 c2_3 c2_4 c2_5 c2_6 c2_7 c2_8 c2_9 (Below.refl _ _)
  refine step_read 0 31 rfl rfl (by kernel_rfl) (by kernel_rfl) (by kernel_rfl) (fun _ _ _ h => h) (by rfl) (v := ?_) (fun w hSw => ?_) (by assumption) ?_; rotate_left; (focus ((try dsimp only at hSw); go_simp; first | done | exact rfl)); simp only [List.set]
  refine step_read 2 33 rfl rfl (by kernel_rfl) (by kernel_rfl) (by kernel_rfl) (fun _ _ _ h => h) (by rfl) (v := ?_) (fun w hSw => ?_) (by assumption) ?_; rotate_left; (focus ((try dsimp only at hSw); go_simp; first | done | exact rfl)); simp only [List.set]
  refine wpAnyH_ready (rs := [1]) (by kernel_rfl) (by simp) ?_
  refine AllReadyH.cons rfl (fun Kc hK => ?_) (AllReadyH.nil)
  go_simp
  go_at_call 79
  have hsz1 := (rs10_out hHeld).1
  refine (slsum_any o s ag lo hi lo hi n m _ _ K T _ HK.out HT.out (RR0.out.below (rs10_out (by assumption)).2 (by omega)) (RR1.out.below (rs10_out (by assumption)).2 (by omega)) (by omega) (by omega)).mono ?_
  rw [<- HX.out]
  rintro e w1 ⟨rfl, hb1⟩
  have sz1 := hb1.size
  refine hK.out _ _ ?_ (fun hHeld => ?_)
  · exact rs10_keep (by omega) (by omega) (by omega) (by omega) (by omega) (by omega) (by omega) (by omega) (by omega) (by omega) (hb1.mono (by omega)) (by assumption)
  clear hK Kc
  refine wpAnyH_ready (rs := [3]) (by kernel_rfl) (by simp) ?_
  refine AllReadyH.cons rfl (fun Kc hK => ?_) (AllReadyH.nil)
  go_simp
  go_at_call 79
  have hsz2 := (rs10_out hHeld).1
  refine (slsum_any o s ag lo2 hi2 lo2 hi2 n2 m2 _ _ K2 T2 _ HK2.out HT2.out (RR2.out.below (rs10_out (by assumption)).2 (by omega)) (RR3.out.below (rs10_out (by assumption)).2 (by omega)) (by omega) (by omega)).mono ?_
  rw [<- HY.out]
  rintro e w2 ⟨rfl, hb2⟩
  have sz2 := hb2.size
  refine hK.out _ _ ?_ (fun hHeld => ?_)
  · exact rs10_keep (by omega) (by omega) (by omega) (by omega) (by omega) (by omega) (by omega) (by omega) (by omega) (by omega) (hb2.mono (by omega)) (by assumption)
  clear hK Kc
  refine step_read 4 35 rfl rfl (by kernel_rfl) (by kernel_rfl) (by kernel_rfl) (fun _ _ _ h => h) (by rfl) (v := ?_) (fun w hSw => ?_) (by assumption) ?_; rotate_left; (focus ((try dsimp only at hSw); go_simp; first | done | exact rfl)); simp only [List.set]
  refine wpAnyH_done (by kernel_rfl) ?_ _
  obtain ⟨k0, k1, k2, k3, k4, k5, k6, k7, k8, k9, hzz, hBB⟩ := hHeld
  have HBB := Lib.hid hBB
  clear hBB
  go_wp2_with fail
  go_ret
  exact ⟨by rw [Hn.out]; rfl, HB1.out.trans (HBB.out.mono (by omega))⟩
set_option linter.unusedVariables false in
set_option maxRecDepth 100000 in
set_option maxHeartbeats 4000000 in
theorem snew_6 (o s ag o2 s2 ag2 : Int) (lo hi n m lo2 hi2 n2 m2 : Nat) (u v u2 v2 : Value) (K : List Lk) (T : List Ed) (K2 : List Lk) (T2 : List Ed) (w : World) (hK : K.length = n) (hT : T.length = m) (hK2 : K2.length = n2) (hT2 : T2.length = m2) (hr : LRow w lo hi u v n m (flat2 K) (flat T)) (hr2 : LRow w lo2 hi2 u2 v2 n2 m2 (flat2 K2) (flat T2)) (hh : hi <= w.heap.size) (hh2 : hi2 <= w.heap.size) (hv : lokB o s ag K T = true) (hv2 : lokB o2 s2 ag2 K2 T2 = true) (ho : o = o2) (hs : s = s2) (hd : lsum o s ag K T = lsum o2 s2 ag2 K2 T2) (ha : ag ≠ ag2) (h6 : ag = 60) :
    Calls Try.prog 70 #[.agg #[.int .i64 o, .int .i64 s, .int .i64 ag, u, v], .agg #[.int .i64 o2, .int .i64 s2, .int .i64 ag2, u2, v2]] w fun e w' => e = .returned (.int .i64 (newN o s ag o2 s2 ag2 K T K2 T2)) /\ Below w.heap.size w w' := by
  subst ho
  subst hs
  have HN : newN o s ag o s ag2 K T K2 T2 = sgn (ag - ag2) := by rw [newN_yes hv hv2, if_neg (by simp), if_neg (by simp [hd])]; unfold ageN; rw [if_neg ha, if_pos (.inl h6)]
  have hbd := lok_bd hv
  have hbd2 := lok_bd hv2
  obtain ⟨oa, ob, sa, sb, ga, gb, _, _⟩ := hbd
  obtain ⟨oc, od, sc, sd, gc, gd, _, _⟩ := hbd2
  have hsm := lsum_bd hv
  have hsm2 := lsum_bd hv2
  obtain ⟨sum0, sum1⟩ := hsm
  obtain ⟨sum2, sum3⟩ := hsm2
  obtain ⟨x, hx⟩ : ∃ x, x = lsum o s ag K T := ⟨_, rfl⟩
  have hy : x = lsum o s ag2 K2 T2 := by rw [hx]; exact hd
  have HX := Lib.hid hx
  have HY := Lib.hid hy
  have Hn := Lib.hid HN
  clear hd hx hy HN sum0 sum1 sum2 sum3
  have g1 : (ag == ag2) = false := by simp [ha]
  have g2 : (ag == 60) = true := by simp [h6]
  have Hh := Lib.hid (And.intro ha h6)
  clear ha h6
  have Hv := Lib.hid hv
  have Hv2 := Lib.hid hv2
  clear hv hv2
  have R0 := Lib.hid hr.fst
  have R1 := Lib.hid hr.snd
  have R2 := Lib.hid hr2.fst
  have R3 := Lib.hid hr2.snd
  have HK := Lib.hid hK
  have HT := Lib.hid hT
  have HK2 := Lib.hid hK2
  have HT2 := Lib.hid hT2
  obtain ⟨ad, cp, ae, cq, rfl, rfl⟩ := hr.slice
  obtain ⟨bd, dp, be, dq, rfl, rfl⟩ := hr2.slice
  clear hr hr2 hK hT hK2 hT2
  go_enter Try.func70, Try.ntmps70
  go_wp2_with fail
  go_at_call 48
  refine (slok_any o s ag lo hi lo hi n m _ _ K T _ HK.out HT.out (R0.out.below (B := w.heap.size) (by go_grown) (by omega)) (R1.out.below (B := w.heap.size) (by go_grown) (by omega)) (by first | omega | (simp; omega)) (by first | omega | (simp; omega))).mono ?_
  rw [Hv.out]
  rintro e v1 ⟨rfl, hb1⟩
  have sz1 : w.heap.size + 2 <= v1.heap.size := by have hh := hb1.size; simp at hh; omega
  have st1 : Below w.heap.size w v1 := Below.trans (by go_grown) (hb1.mono (by simp <;> omega))
  have c1_0 : v1.cell? ⟨w.heap.size, 0, none⟩ = some (.int .i64 o) := by rw [(bcell hb1).1 _ _ (by simp <;> omega), old_box (by simp <;> omega)]; first | (rw [new_at (by simp)]; rfl) | simp
  have c1_1 : v1.cell? ⟨w.heap.size, 1, none⟩ = some (.int .i64 s) := by rw [(bcell hb1).1 _ _ (by simp <;> omega), old_box (by simp <;> omega)]; first | (rw [new_at (by simp)]; rfl) | simp
  have c1_2 : v1.cell? ⟨w.heap.size, 2, none⟩ = some (.int .i64 ag) := by rw [(bcell hb1).1 _ _ (by simp <;> omega), old_box (by simp <;> omega)]; first | (rw [new_at (by simp)]; rfl) | simp
  have c1_3 : v1.cell? ⟨w.heap.size, 3, none⟩ = some (.slice ad n cp) := by rw [(bcell hb1).1 _ _ (by simp <;> omega), old_box (by simp <;> omega)]; first | (rw [new_at (by simp)]; rfl) | simp
  have c1_4 : v1.cell? ⟨w.heap.size, 4, none⟩ = some (.slice ae m cq) := by rw [(bcell hb1).1 _ _ (by simp <;> omega), old_box (by simp <;> omega)]; first | (rw [new_at (by simp)]; rfl) | simp
  have c1_5 : v1.cell? ⟨w.heap.size + 1, 0, none⟩ = some (.int .i64 o) := by rw [(bcell hb1).1 _ _ (by simp)]; first | (rw [new_at (by simp)]; rfl) | simp
  have c1_6 : v1.cell? ⟨w.heap.size + 1, 1, none⟩ = some (.int .i64 s) := by rw [(bcell hb1).1 _ _ (by simp)]; first | (rw [new_at (by simp)]; rfl) | simp
  have c1_7 : v1.cell? ⟨w.heap.size + 1, 2, none⟩ = some (.int .i64 ag2) := by rw [(bcell hb1).1 _ _ (by simp)]; first | (rw [new_at (by simp)]; rfl) | simp
  have c1_8 : v1.cell? ⟨w.heap.size + 1, 3, none⟩ = some (.slice bd n2 dp) := by rw [(bcell hb1).1 _ _ (by simp)]; first | (rw [new_at (by simp)]; rfl) | simp
  have c1_9 : v1.cell? ⟨w.heap.size + 1, 4, none⟩ = some (.slice be m2 dq) := by rw [(bcell hb1).1 _ _ (by simp)]; first | (rw [new_at (by simp)]; rfl) | simp
  have B1 : Hid (Below w.heap.size w v1) := st1
  have R1_0 : Hid (Row 2 v1 (lo) (hi) (.slice ad n cp) n (flat2 K)) := R0.out.below st1 (by omega)
  have R1_1 : Hid (Row 3 v1 (lo) (hi) (.slice ae m cq) m (flat T)) := R1.out.below st1 (by omega)
  have R1_2 : Hid (Row 2 v1 (lo2) (hi2) (.slice bd n2 dp) n2 (flat2 K2)) := R2.out.below st1 (by omega)
  have R1_3 : Hid (Row 3 v1 (lo2) (hi2) (.slice be m2 dq) m2 (flat T2)) := R3.out.below st1 (by omega)
  have d1_0 : w.heap.size < v1.heap.size := by omega
  have e1_0 : w.heap.size ≠ v1.heap.size := by omega
  have d1_1 : w.heap.size + 1 < v1.heap.size := by omega
  have e1_1 : w.heap.size + 1 ≠ v1.heap.size := by omega
  clear st1 R0 R1 R2 R3 hb1
  go_wp2_with fail
  go_at_call 48
  refine (slok_any o s ag2 lo2 hi2 lo2 hi2 n2 m2 _ _ K2 T2 _ HK2.out HT2.out R1_2.out R1_3.out (by first | omega | (simp; omega)) (by first | omega | (simp; omega))).mono ?_
  rw [Hv2.out]
  rintro e v2 ⟨rfl, hb2⟩
  have sz2 : v1.heap.size <= v2.heap.size := hb2.size
  have st2 : Below v1.heap.size v1 v2 := hb2
  have c2_0 : v2.cell? ⟨w.heap.size, 0, none⟩ = some (.int .i64 o) := by rw [(bcell st2).1 _ _ (by omega)]; exact c1_0
  have c2_1 : v2.cell? ⟨w.heap.size, 1, none⟩ = some (.int .i64 s) := by rw [(bcell st2).1 _ _ (by omega)]; exact c1_1
  have c2_2 : v2.cell? ⟨w.heap.size, 2, none⟩ = some (.int .i64 ag) := by rw [(bcell st2).1 _ _ (by omega)]; exact c1_2
  have c2_3 : v2.cell? ⟨w.heap.size, 3, none⟩ = some (.slice ad n cp) := by rw [(bcell st2).1 _ _ (by omega)]; exact c1_3
  have c2_4 : v2.cell? ⟨w.heap.size, 4, none⟩ = some (.slice ae m cq) := by rw [(bcell st2).1 _ _ (by omega)]; exact c1_4
  have c2_5 : v2.cell? ⟨w.heap.size + 1, 0, none⟩ = some (.int .i64 o) := by rw [(bcell st2).1 _ _ (by omega)]; exact c1_5
  have c2_6 : v2.cell? ⟨w.heap.size + 1, 1, none⟩ = some (.int .i64 s) := by rw [(bcell st2).1 _ _ (by omega)]; exact c1_6
  have c2_7 : v2.cell? ⟨w.heap.size + 1, 2, none⟩ = some (.int .i64 ag2) := by rw [(bcell st2).1 _ _ (by omega)]; exact c1_7
  have c2_8 : v2.cell? ⟨w.heap.size + 1, 3, none⟩ = some (.slice bd n2 dp) := by rw [(bcell st2).1 _ _ (by omega)]; exact c1_8
  have c2_9 : v2.cell? ⟨w.heap.size + 1, 4, none⟩ = some (.slice be m2 dq) := by rw [(bcell st2).1 _ _ (by omega)]; exact c1_9
  have B2 : Hid (Below w.heap.size w v2) := B1.out.trans (st2.mono (by omega))
  have R2_0 : Hid (Row 2 v2 (lo) (hi) (.slice ad n cp) n (flat2 K)) := R1_0.out.below st2 (by omega)
  have R2_1 : Hid (Row 3 v2 (lo) (hi) (.slice ae m cq) m (flat T)) := R1_1.out.below st2 (by omega)
  have R2_2 : Hid (Row 2 v2 (lo2) (hi2) (.slice bd n2 dp) n2 (flat2 K2)) := R1_2.out.below st2 (by omega)
  have R2_3 : Hid (Row 3 v2 (lo2) (hi2) (.slice be m2 dq) m2 (flat T2)) := R1_3.out.below st2 (by omega)
  have d2_0 : w.heap.size < v2.heap.size := by omega
  have e2_0 : w.heap.size ≠ v2.heap.size := by omega
  have d2_1 : w.heap.size + 1 < v2.heap.size := by omega
  have e2_1 : w.heap.size + 1 ≠ v2.heap.size := by omega
  clear d1_0 e1_0 d1_1 e1_1 c1_0 c1_1 c1_2 c1_3 c1_4 c1_5 c1_6 c1_7 c1_8 c1_9 B1 st2 R1_0 R1_1 R1_2 R1_3 hb2
  have HB1 := B2
  have RR0 := R2_0
  have RR1 := R2_1
  have RR2 := R2_2
  have RR3 := R2_3
  go_wp2_with fail
  refine wp_region_held_drew (S := (fun w' => w'.cell? ⟨w.heap.size, 0, none⟩ = some (.int .i64 o) /\ w'.cell? ⟨w.heap.size, 1, none⟩ = some (.int .i64 s) /\ w'.cell? ⟨w.heap.size, 2, none⟩ = some (.int .i64 ag) /\ w'.cell? ⟨w.heap.size, 3, none⟩ = some (.slice ad n cp) /\ w'.cell? ⟨w.heap.size, 4, none⟩ = some (.slice ae m cq) /\ w'.cell? ⟨w.heap.size + 1, 0, none⟩ = some (.int .i64 o) /\ w'.cell? ⟨w.heap.size + 1, 1, none⟩ = some (.int .i64 s) /\ w'.cell? ⟨w.heap.size + 1, 2, none⟩ = some (.int .i64 ag2) /\ w'.cell? ⟨w.heap.size + 1, 3, none⟩ = some (.slice bd n2 dp) /\ w'.cell? ⟨w.heap.size + 1, 4, none⟩ = some (.slice be m2 dq) /\ v2.heap.size <= w'.heap.size /\ Below v2.heap.size v2 w')) (by kernel_rfl) ?_ (fun hHeld => ?_)
  · exact rs10_start c2_0 c2_1 c2_2 c2_3 c2_4 c2_5 c2_6 c2_7 c2_8 c2_9 (Below.refl _ _)
  refine step_read 0 31 rfl rfl (by kernel_rfl) (by kernel_rfl) (by kernel_rfl) (fun _ _ _ h => h) (by rfl) (v := ?_) (fun w hSw => ?_) (by assumption) ?_; rotate_left; (focus ((try dsimp only at hSw); go_simp; first | done | exact rfl)); simp only [List.set]
  refine step_read 2 33 rfl rfl (by kernel_rfl) (by kernel_rfl) (by kernel_rfl) (fun _ _ _ h => h) (by rfl) (v := ?_) (fun w hSw => ?_) (by assumption) ?_; rotate_left; (focus ((try dsimp only at hSw); go_simp; first | done | exact rfl)); simp only [List.set]
  refine wpAnyH_ready (rs := [1]) (by kernel_rfl) (by simp) ?_
  refine AllReadyH.cons rfl (fun Kc hK => ?_) (AllReadyH.nil)
  go_simp
  go_at_call 79
  have hsz1 := (rs10_out hHeld).1
  refine (slsum_any o s ag lo hi lo hi n m _ _ K T _ HK.out HT.out (RR0.out.below (rs10_out (by assumption)).2 (by omega)) (RR1.out.below (rs10_out (by assumption)).2 (by omega)) (by omega) (by omega)).mono ?_
  rw [<- HX.out]
  rintro e w1 ⟨rfl, hb1⟩
  have sz1 := hb1.size
  refine hK.out _ _ ?_ (fun hHeld => ?_)
  · exact rs10_keep (by omega) (by omega) (by omega) (by omega) (by omega) (by omega) (by omega) (by omega) (by omega) (by omega) (hb1.mono (by omega)) (by assumption)
  clear hK Kc
  refine wpAnyH_ready (rs := [3]) (by kernel_rfl) (by simp) ?_
  refine AllReadyH.cons rfl (fun Kc hK => ?_) (AllReadyH.nil)
  go_simp
  go_at_call 79
  have hsz2 := (rs10_out hHeld).1
  refine (slsum_any o s ag2 lo2 hi2 lo2 hi2 n2 m2 _ _ K2 T2 _ HK2.out HT2.out (RR2.out.below (rs10_out (by assumption)).2 (by omega)) (RR3.out.below (rs10_out (by assumption)).2 (by omega)) (by omega) (by omega)).mono ?_
  rw [<- HY.out]
  rintro e w2 ⟨rfl, hb2⟩
  have sz2 := hb2.size
  refine hK.out _ _ ?_ (fun hHeld => ?_)
  · exact rs10_keep (by omega) (by omega) (by omega) (by omega) (by omega) (by omega) (by omega) (by omega) (by omega) (by omega) (hb2.mono (by omega)) (by assumption)
  clear hK Kc
  refine step_read 4 35 rfl rfl (by kernel_rfl) (by kernel_rfl) (by kernel_rfl) (fun _ _ _ h => h) (by rfl) (v := ?_) (fun w hSw => ?_) (by assumption) ?_; rotate_left; (focus ((try dsimp only at hSw); go_simp; first | done | exact rfl)); simp only [List.set]
  refine wpAnyH_done (by kernel_rfl) ?_ _
  obtain ⟨k0, k1, k2, k3, k4, k5, k6, k7, k8, k9, hzz, hBB⟩ := hHeld
  have HBB := Lib.hid hBB
  clear hBB
  go_wp2_with fail
  go_at_call 99
  refine (sign_any (ag - ag2) _).mono ?_
  rintro e wz ⟨rfl, rfl⟩
  go_wp2_with fail
  go_ret
  exact ⟨by rw [Hn.out]; rfl, HB1.out.trans (HBB.out.mono (by omega))⟩
set_option linter.unusedVariables false in
set_option maxRecDepth 100000 in
set_option maxHeartbeats 4000000 in
theorem snew_7 (o s ag o2 s2 ag2 : Int) (lo hi n m lo2 hi2 n2 m2 : Nat) (u v u2 v2 : Value) (K : List Lk) (T : List Ed) (K2 : List Lk) (T2 : List Ed) (w : World) (hK : K.length = n) (hT : T.length = m) (hK2 : K2.length = n2) (hT2 : T2.length = m2) (hr : LRow w lo hi u v n m (flat2 K) (flat T)) (hr2 : LRow w lo2 hi2 u2 v2 n2 m2 (flat2 K2) (flat T2)) (hh : hi <= w.heap.size) (hh2 : hi2 <= w.heap.size) (hv : lokB o s ag K T = true) (hv2 : lokB o2 s2 ag2 K2 T2 = true) (ho : o = o2) (hs : s = s2) (hd : lsum o s ag K T = lsum o2 s2 ag2 K2 T2) (ha : ag ≠ ag2) (h6 : ag ≠ 60) (h7 : ag2 = 60) :
    Calls Try.prog 70 #[.agg #[.int .i64 o, .int .i64 s, .int .i64 ag, u, v], .agg #[.int .i64 o2, .int .i64 s2, .int .i64 ag2, u2, v2]] w fun e w' => e = .returned (.int .i64 (newN o s ag o2 s2 ag2 K T K2 T2)) /\ Below w.heap.size w w' := by
  subst ho
  subst hs
  have HN : newN o s ag o s ag2 K T K2 T2 = sgn (ag - ag2) := by rw [newN_yes hv hv2, if_neg (by simp), if_neg (by simp [hd])]; unfold ageN; rw [if_neg ha, if_pos (.inr h7)]
  have hbd := lok_bd hv
  have hbd2 := lok_bd hv2
  obtain ⟨oa, ob, sa, sb, ga, gb, _, _⟩ := hbd
  obtain ⟨oc, od, sc, sd, gc, gd, _, _⟩ := hbd2
  have hsm := lsum_bd hv
  have hsm2 := lsum_bd hv2
  obtain ⟨sum0, sum1⟩ := hsm
  obtain ⟨sum2, sum3⟩ := hsm2
  obtain ⟨x, hx⟩ : ∃ x, x = lsum o s ag K T := ⟨_, rfl⟩
  have hy : x = lsum o s ag2 K2 T2 := by rw [hx]; exact hd
  have HX := Lib.hid hx
  have HY := Lib.hid hy
  have Hn := Lib.hid HN
  clear hd hx hy HN sum0 sum1 sum2 sum3
  have g1 : (ag == ag2) = false := by simp [ha]
  have g2 : (ag == 60) = false := by simp [h6]
  have g3 : (ag2 == 60) = true := by simp [h7]
  have Hh := Lib.hid (And.intro ha (And.intro h6 h7))
  clear ha h6 h7
  have Hv := Lib.hid hv
  have Hv2 := Lib.hid hv2
  clear hv hv2
  have R0 := Lib.hid hr.fst
  have R1 := Lib.hid hr.snd
  have R2 := Lib.hid hr2.fst
  have R3 := Lib.hid hr2.snd
  have HK := Lib.hid hK
  have HT := Lib.hid hT
  have HK2 := Lib.hid hK2
  have HT2 := Lib.hid hT2
  obtain ⟨ad, cp, ae, cq, rfl, rfl⟩ := hr.slice
  obtain ⟨bd, dp, be, dq, rfl, rfl⟩ := hr2.slice
  clear hr hr2 hK hT hK2 hT2
  go_enter Try.func70, Try.ntmps70
  go_wp2_with fail
  go_at_call 48
  refine (slok_any o s ag lo hi lo hi n m _ _ K T _ HK.out HT.out (R0.out.below (B := w.heap.size) (by go_grown) (by omega)) (R1.out.below (B := w.heap.size) (by go_grown) (by omega)) (by first | omega | (simp; omega)) (by first | omega | (simp; omega))).mono ?_
  rw [Hv.out]
  rintro e v1 ⟨rfl, hb1⟩
  have sz1 : w.heap.size + 2 <= v1.heap.size := by have hh := hb1.size; simp at hh; omega
  have st1 : Below w.heap.size w v1 := Below.trans (by go_grown) (hb1.mono (by simp <;> omega))
  have c1_0 : v1.cell? ⟨w.heap.size, 0, none⟩ = some (.int .i64 o) := by rw [(bcell hb1).1 _ _ (by simp <;> omega), old_box (by simp <;> omega)]; first | (rw [new_at (by simp)]; rfl) | simp
  have c1_1 : v1.cell? ⟨w.heap.size, 1, none⟩ = some (.int .i64 s) := by rw [(bcell hb1).1 _ _ (by simp <;> omega), old_box (by simp <;> omega)]; first | (rw [new_at (by simp)]; rfl) | simp
  have c1_2 : v1.cell? ⟨w.heap.size, 2, none⟩ = some (.int .i64 ag) := by rw [(bcell hb1).1 _ _ (by simp <;> omega), old_box (by simp <;> omega)]; first | (rw [new_at (by simp)]; rfl) | simp
  have c1_3 : v1.cell? ⟨w.heap.size, 3, none⟩ = some (.slice ad n cp) := by rw [(bcell hb1).1 _ _ (by simp <;> omega), old_box (by simp <;> omega)]; first | (rw [new_at (by simp)]; rfl) | simp
  have c1_4 : v1.cell? ⟨w.heap.size, 4, none⟩ = some (.slice ae m cq) := by rw [(bcell hb1).1 _ _ (by simp <;> omega), old_box (by simp <;> omega)]; first | (rw [new_at (by simp)]; rfl) | simp
  have c1_5 : v1.cell? ⟨w.heap.size + 1, 0, none⟩ = some (.int .i64 o) := by rw [(bcell hb1).1 _ _ (by simp)]; first | (rw [new_at (by simp)]; rfl) | simp
  have c1_6 : v1.cell? ⟨w.heap.size + 1, 1, none⟩ = some (.int .i64 s) := by rw [(bcell hb1).1 _ _ (by simp)]; first | (rw [new_at (by simp)]; rfl) | simp
  have c1_7 : v1.cell? ⟨w.heap.size + 1, 2, none⟩ = some (.int .i64 ag2) := by rw [(bcell hb1).1 _ _ (by simp)]; first | (rw [new_at (by simp)]; rfl) | simp
  have c1_8 : v1.cell? ⟨w.heap.size + 1, 3, none⟩ = some (.slice bd n2 dp) := by rw [(bcell hb1).1 _ _ (by simp)]; first | (rw [new_at (by simp)]; rfl) | simp
  have c1_9 : v1.cell? ⟨w.heap.size + 1, 4, none⟩ = some (.slice be m2 dq) := by rw [(bcell hb1).1 _ _ (by simp)]; first | (rw [new_at (by simp)]; rfl) | simp
  have B1 : Hid (Below w.heap.size w v1) := st1
  have R1_0 : Hid (Row 2 v1 (lo) (hi) (.slice ad n cp) n (flat2 K)) := R0.out.below st1 (by omega)
  have R1_1 : Hid (Row 3 v1 (lo) (hi) (.slice ae m cq) m (flat T)) := R1.out.below st1 (by omega)
  have R1_2 : Hid (Row 2 v1 (lo2) (hi2) (.slice bd n2 dp) n2 (flat2 K2)) := R2.out.below st1 (by omega)
  have R1_3 : Hid (Row 3 v1 (lo2) (hi2) (.slice be m2 dq) m2 (flat T2)) := R3.out.below st1 (by omega)
  have d1_0 : w.heap.size < v1.heap.size := by omega
  have e1_0 : w.heap.size ≠ v1.heap.size := by omega
  have d1_1 : w.heap.size + 1 < v1.heap.size := by omega
  have e1_1 : w.heap.size + 1 ≠ v1.heap.size := by omega
  clear st1 R0 R1 R2 R3 hb1
  go_wp2_with fail
  go_at_call 48
  refine (slok_any o s ag2 lo2 hi2 lo2 hi2 n2 m2 _ _ K2 T2 _ HK2.out HT2.out R1_2.out R1_3.out (by first | omega | (simp; omega)) (by first | omega | (simp; omega))).mono ?_
  rw [Hv2.out]
  rintro e v2 ⟨rfl, hb2⟩
  have sz2 : v1.heap.size <= v2.heap.size := hb2.size
  have st2 : Below v1.heap.size v1 v2 := hb2
  have c2_0 : v2.cell? ⟨w.heap.size, 0, none⟩ = some (.int .i64 o) := by rw [(bcell st2).1 _ _ (by omega)]; exact c1_0
  have c2_1 : v2.cell? ⟨w.heap.size, 1, none⟩ = some (.int .i64 s) := by rw [(bcell st2).1 _ _ (by omega)]; exact c1_1
  have c2_2 : v2.cell? ⟨w.heap.size, 2, none⟩ = some (.int .i64 ag) := by rw [(bcell st2).1 _ _ (by omega)]; exact c1_2
  have c2_3 : v2.cell? ⟨w.heap.size, 3, none⟩ = some (.slice ad n cp) := by rw [(bcell st2).1 _ _ (by omega)]; exact c1_3
  have c2_4 : v2.cell? ⟨w.heap.size, 4, none⟩ = some (.slice ae m cq) := by rw [(bcell st2).1 _ _ (by omega)]; exact c1_4
  have c2_5 : v2.cell? ⟨w.heap.size + 1, 0, none⟩ = some (.int .i64 o) := by rw [(bcell st2).1 _ _ (by omega)]; exact c1_5
  have c2_6 : v2.cell? ⟨w.heap.size + 1, 1, none⟩ = some (.int .i64 s) := by rw [(bcell st2).1 _ _ (by omega)]; exact c1_6
  have c2_7 : v2.cell? ⟨w.heap.size + 1, 2, none⟩ = some (.int .i64 ag2) := by rw [(bcell st2).1 _ _ (by omega)]; exact c1_7
  have c2_8 : v2.cell? ⟨w.heap.size + 1, 3, none⟩ = some (.slice bd n2 dp) := by rw [(bcell st2).1 _ _ (by omega)]; exact c1_8
  have c2_9 : v2.cell? ⟨w.heap.size + 1, 4, none⟩ = some (.slice be m2 dq) := by rw [(bcell st2).1 _ _ (by omega)]; exact c1_9
  have B2 : Hid (Below w.heap.size w v2) := B1.out.trans (st2.mono (by omega))
  have R2_0 : Hid (Row 2 v2 (lo) (hi) (.slice ad n cp) n (flat2 K)) := R1_0.out.below st2 (by omega)
  have R2_1 : Hid (Row 3 v2 (lo) (hi) (.slice ae m cq) m (flat T)) := R1_1.out.below st2 (by omega)
  have R2_2 : Hid (Row 2 v2 (lo2) (hi2) (.slice bd n2 dp) n2 (flat2 K2)) := R1_2.out.below st2 (by omega)
  have R2_3 : Hid (Row 3 v2 (lo2) (hi2) (.slice be m2 dq) m2 (flat T2)) := R1_3.out.below st2 (by omega)
  have d2_0 : w.heap.size < v2.heap.size := by omega
  have e2_0 : w.heap.size ≠ v2.heap.size := by omega
  have d2_1 : w.heap.size + 1 < v2.heap.size := by omega
  have e2_1 : w.heap.size + 1 ≠ v2.heap.size := by omega
  clear d1_0 e1_0 d1_1 e1_1 c1_0 c1_1 c1_2 c1_3 c1_4 c1_5 c1_6 c1_7 c1_8 c1_9 B1 st2 R1_0 R1_1 R1_2 R1_3 hb2
  have HB1 := B2
  have RR0 := R2_0
  have RR1 := R2_1
  have RR2 := R2_2
  have RR3 := R2_3
  go_wp2_with fail
  refine wp_region_held_drew (S := (fun w' => w'.cell? ⟨w.heap.size, 0, none⟩ = some (.int .i64 o) /\ w'.cell? ⟨w.heap.size, 1, none⟩ = some (.int .i64 s) /\ w'.cell? ⟨w.heap.size, 2, none⟩ = some (.int .i64 ag) /\ w'.cell? ⟨w.heap.size, 3, none⟩ = some (.slice ad n cp) /\ w'.cell? ⟨w.heap.size, 4, none⟩ = some (.slice ae m cq) /\ w'.cell? ⟨w.heap.size + 1, 0, none⟩ = some (.int .i64 o) /\ w'.cell? ⟨w.heap.size + 1, 1, none⟩ = some (.int .i64 s) /\ w'.cell? ⟨w.heap.size + 1, 2, none⟩ = some (.int .i64 ag2) /\ w'.cell? ⟨w.heap.size + 1, 3, none⟩ = some (.slice bd n2 dp) /\ w'.cell? ⟨w.heap.size + 1, 4, none⟩ = some (.slice be m2 dq) /\ v2.heap.size <= w'.heap.size /\ Below v2.heap.size v2 w')) (by kernel_rfl) ?_ (fun hHeld => ?_)
  · exact rs10_start c2_0 c2_1 c2_2 c2_3 c2_4 c2_5 c2_6 c2_7 c2_8 c2_9 (Below.refl _ _)
  refine step_read 0 31 rfl rfl (by kernel_rfl) (by kernel_rfl) (by kernel_rfl) (fun _ _ _ h => h) (by rfl) (v := ?_) (fun w hSw => ?_) (by assumption) ?_; rotate_left; (focus ((try dsimp only at hSw); go_simp; first | done | exact rfl)); simp only [List.set]
  refine step_read 2 33 rfl rfl (by kernel_rfl) (by kernel_rfl) (by kernel_rfl) (fun _ _ _ h => h) (by rfl) (v := ?_) (fun w hSw => ?_) (by assumption) ?_; rotate_left; (focus ((try dsimp only at hSw); go_simp; first | done | exact rfl)); simp only [List.set]
  refine wpAnyH_ready (rs := [1]) (by kernel_rfl) (by simp) ?_
  refine AllReadyH.cons rfl (fun Kc hK => ?_) (AllReadyH.nil)
  go_simp
  go_at_call 79
  have hsz1 := (rs10_out hHeld).1
  refine (slsum_any o s ag lo hi lo hi n m _ _ K T _ HK.out HT.out (RR0.out.below (rs10_out (by assumption)).2 (by omega)) (RR1.out.below (rs10_out (by assumption)).2 (by omega)) (by omega) (by omega)).mono ?_
  rw [<- HX.out]
  rintro e w1 ⟨rfl, hb1⟩
  have sz1 := hb1.size
  refine hK.out _ _ ?_ (fun hHeld => ?_)
  · exact rs10_keep (by omega) (by omega) (by omega) (by omega) (by omega) (by omega) (by omega) (by omega) (by omega) (by omega) (hb1.mono (by omega)) (by assumption)
  clear hK Kc
  refine wpAnyH_ready (rs := [3]) (by kernel_rfl) (by simp) ?_
  refine AllReadyH.cons rfl (fun Kc hK => ?_) (AllReadyH.nil)
  go_simp
  go_at_call 79
  have hsz2 := (rs10_out hHeld).1
  refine (slsum_any o s ag2 lo2 hi2 lo2 hi2 n2 m2 _ _ K2 T2 _ HK2.out HT2.out (RR2.out.below (rs10_out (by assumption)).2 (by omega)) (RR3.out.below (rs10_out (by assumption)).2 (by omega)) (by omega) (by omega)).mono ?_
  rw [<- HY.out]
  rintro e w2 ⟨rfl, hb2⟩
  have sz2 := hb2.size
  refine hK.out _ _ ?_ (fun hHeld => ?_)
  · exact rs10_keep (by omega) (by omega) (by omega) (by omega) (by omega) (by omega) (by omega) (by omega) (by omega) (by omega) (hb2.mono (by omega)) (by assumption)
  clear hK Kc
  refine step_read 4 35 rfl rfl (by kernel_rfl) (by kernel_rfl) (by kernel_rfl) (fun _ _ _ h => h) (by rfl) (v := ?_) (fun w hSw => ?_) (by assumption) ?_; rotate_left; (focus ((try dsimp only at hSw); go_simp; first | done | exact rfl)); simp only [List.set]
  refine wpAnyH_done (by kernel_rfl) ?_ _
  obtain ⟨k0, k1, k2, k3, k4, k5, k6, k7, k8, k9, hzz, hBB⟩ := hHeld
  have HBB := Lib.hid hBB
  clear hBB
  go_wp2_with fail
  go_at_call 99
  refine (sign_any (ag - ag2) _).mono ?_
  rintro e wz ⟨rfl, rfl⟩
  go_wp2_with fail
  go_ret
  exact ⟨by rw [Hn.out]; rfl, HB1.out.trans (HBB.out.mono (by omega))⟩
set_option linter.unusedVariables false in
set_option maxRecDepth 100000 in
set_option maxHeartbeats 4000000 in
theorem snew_8 (o s ag o2 s2 ag2 : Int) (lo hi n m lo2 hi2 n2 m2 : Nat) (u v u2 v2 : Value) (K : List Lk) (T : List Ed) (K2 : List Lk) (T2 : List Ed) (w : World) (hK : K.length = n) (hT : T.length = m) (hK2 : K2.length = n2) (hT2 : T2.length = m2) (hr : LRow w lo hi u v n m (flat2 K) (flat T)) (hr2 : LRow w lo2 hi2 u2 v2 n2 m2 (flat2 K2) (flat T2)) (hh : hi <= w.heap.size) (hh2 : hi2 <= w.heap.size) (hv : lokB o s ag K T = true) (hv2 : lokB o2 s2 ag2 K2 T2 = true) (ho : o = o2) (hs : s = s2) (hd : lsum o s ag K T = lsum o2 s2 ag2 K2 T2) (ha : ag ≠ ag2) (h6 : ag ≠ 60) (h7 : ag2 ≠ 60) (h8 : 10 < ag - ag2) :
    Calls Try.prog 70 #[.agg #[.int .i64 o, .int .i64 s, .int .i64 ag, u, v], .agg #[.int .i64 o2, .int .i64 s2, .int .i64 ag2, u2, v2]] w fun e w' => e = .returned (.int .i64 (newN o s ag o2 s2 ag2 K T K2 T2)) /\ Below w.heap.size w w' := by
  subst ho
  subst hs
  have HN : newN o s ag o s ag2 K T K2 T2 = sgn (ag2 - ag) := by rw [newN_yes hv hv2, if_neg (by simp), if_neg (by simp [hd])]; unfold ageN; rw [if_neg ha, if_neg (by omega), if_pos (.inl h8)]
  have hbd := lok_bd hv
  have hbd2 := lok_bd hv2
  obtain ⟨oa, ob, sa, sb, ga, gb, _, _⟩ := hbd
  obtain ⟨oc, od, sc, sd, gc, gd, _, _⟩ := hbd2
  have hsm := lsum_bd hv
  have hsm2 := lsum_bd hv2
  obtain ⟨sum0, sum1⟩ := hsm
  obtain ⟨sum2, sum3⟩ := hsm2
  obtain ⟨x, hx⟩ : ∃ x, x = lsum o s ag K T := ⟨_, rfl⟩
  have hy : x = lsum o s ag2 K2 T2 := by rw [hx]; exact hd
  have HX := Lib.hid hx
  have HY := Lib.hid hy
  have Hn := Lib.hid HN
  clear hd hx hy HN sum0 sum1 sum2 sum3
  have g1 : (ag == ag2) = false := by simp [ha]
  have g2 : (ag == 60) = false := by simp [h6]
  have g3 : (ag2 == 60) = false := by simp [h7]
  have Hh := Lib.hid (And.intro ha (And.intro h6 h7))
  clear ha h6 h7
  have Hv := Lib.hid hv
  have Hv2 := Lib.hid hv2
  clear hv hv2
  have R0 := Lib.hid hr.fst
  have R1 := Lib.hid hr.snd
  have R2 := Lib.hid hr2.fst
  have R3 := Lib.hid hr2.snd
  have HK := Lib.hid hK
  have HT := Lib.hid hT
  have HK2 := Lib.hid hK2
  have HT2 := Lib.hid hT2
  obtain ⟨ad, cp, ae, cq, rfl, rfl⟩ := hr.slice
  obtain ⟨bd, dp, be, dq, rfl, rfl⟩ := hr2.slice
  clear hr hr2 hK hT hK2 hT2
  go_enter Try.func70, Try.ntmps70
  go_wp2_with fail
  go_at_call 48
  refine (slok_any o s ag lo hi lo hi n m _ _ K T _ HK.out HT.out (R0.out.below (B := w.heap.size) (by go_grown) (by omega)) (R1.out.below (B := w.heap.size) (by go_grown) (by omega)) (by first | omega | (simp; omega)) (by first | omega | (simp; omega))).mono ?_
  rw [Hv.out]
  rintro e v1 ⟨rfl, hb1⟩
  have sz1 : w.heap.size + 2 <= v1.heap.size := by have hh := hb1.size; simp at hh; omega
  have st1 : Below w.heap.size w v1 := Below.trans (by go_grown) (hb1.mono (by simp <;> omega))
  have c1_0 : v1.cell? ⟨w.heap.size, 0, none⟩ = some (.int .i64 o) := by rw [(bcell hb1).1 _ _ (by simp <;> omega), old_box (by simp <;> omega)]; first | (rw [new_at (by simp)]; rfl) | simp
  have c1_1 : v1.cell? ⟨w.heap.size, 1, none⟩ = some (.int .i64 s) := by rw [(bcell hb1).1 _ _ (by simp <;> omega), old_box (by simp <;> omega)]; first | (rw [new_at (by simp)]; rfl) | simp
  have c1_2 : v1.cell? ⟨w.heap.size, 2, none⟩ = some (.int .i64 ag) := by rw [(bcell hb1).1 _ _ (by simp <;> omega), old_box (by simp <;> omega)]; first | (rw [new_at (by simp)]; rfl) | simp
  have c1_3 : v1.cell? ⟨w.heap.size, 3, none⟩ = some (.slice ad n cp) := by rw [(bcell hb1).1 _ _ (by simp <;> omega), old_box (by simp <;> omega)]; first | (rw [new_at (by simp)]; rfl) | simp
  have c1_4 : v1.cell? ⟨w.heap.size, 4, none⟩ = some (.slice ae m cq) := by rw [(bcell hb1).1 _ _ (by simp <;> omega), old_box (by simp <;> omega)]; first | (rw [new_at (by simp)]; rfl) | simp
  have c1_5 : v1.cell? ⟨w.heap.size + 1, 0, none⟩ = some (.int .i64 o) := by rw [(bcell hb1).1 _ _ (by simp)]; first | (rw [new_at (by simp)]; rfl) | simp
  have c1_6 : v1.cell? ⟨w.heap.size + 1, 1, none⟩ = some (.int .i64 s) := by rw [(bcell hb1).1 _ _ (by simp)]; first | (rw [new_at (by simp)]; rfl) | simp
  have c1_7 : v1.cell? ⟨w.heap.size + 1, 2, none⟩ = some (.int .i64 ag2) := by rw [(bcell hb1).1 _ _ (by simp)]; first | (rw [new_at (by simp)]; rfl) | simp
  have c1_8 : v1.cell? ⟨w.heap.size + 1, 3, none⟩ = some (.slice bd n2 dp) := by rw [(bcell hb1).1 _ _ (by simp)]; first | (rw [new_at (by simp)]; rfl) | simp
  have c1_9 : v1.cell? ⟨w.heap.size + 1, 4, none⟩ = some (.slice be m2 dq) := by rw [(bcell hb1).1 _ _ (by simp)]; first | (rw [new_at (by simp)]; rfl) | simp
  have B1 : Hid (Below w.heap.size w v1) := st1
  have R1_0 : Hid (Row 2 v1 (lo) (hi) (.slice ad n cp) n (flat2 K)) := R0.out.below st1 (by omega)
  have R1_1 : Hid (Row 3 v1 (lo) (hi) (.slice ae m cq) m (flat T)) := R1.out.below st1 (by omega)
  have R1_2 : Hid (Row 2 v1 (lo2) (hi2) (.slice bd n2 dp) n2 (flat2 K2)) := R2.out.below st1 (by omega)
  have R1_3 : Hid (Row 3 v1 (lo2) (hi2) (.slice be m2 dq) m2 (flat T2)) := R3.out.below st1 (by omega)
  have d1_0 : w.heap.size < v1.heap.size := by omega
  have e1_0 : w.heap.size ≠ v1.heap.size := by omega
  have d1_1 : w.heap.size + 1 < v1.heap.size := by omega
  have e1_1 : w.heap.size + 1 ≠ v1.heap.size := by omega
  clear st1 R0 R1 R2 R3 hb1
  go_wp2_with fail
  go_at_call 48
  refine (slok_any o s ag2 lo2 hi2 lo2 hi2 n2 m2 _ _ K2 T2 _ HK2.out HT2.out R1_2.out R1_3.out (by first | omega | (simp; omega)) (by first | omega | (simp; omega))).mono ?_
  rw [Hv2.out]
  rintro e v2 ⟨rfl, hb2⟩
  have sz2 : v1.heap.size <= v2.heap.size := hb2.size
  have st2 : Below v1.heap.size v1 v2 := hb2
  have c2_0 : v2.cell? ⟨w.heap.size, 0, none⟩ = some (.int .i64 o) := by rw [(bcell st2).1 _ _ (by omega)]; exact c1_0
  have c2_1 : v2.cell? ⟨w.heap.size, 1, none⟩ = some (.int .i64 s) := by rw [(bcell st2).1 _ _ (by omega)]; exact c1_1
  have c2_2 : v2.cell? ⟨w.heap.size, 2, none⟩ = some (.int .i64 ag) := by rw [(bcell st2).1 _ _ (by omega)]; exact c1_2
  have c2_3 : v2.cell? ⟨w.heap.size, 3, none⟩ = some (.slice ad n cp) := by rw [(bcell st2).1 _ _ (by omega)]; exact c1_3
  have c2_4 : v2.cell? ⟨w.heap.size, 4, none⟩ = some (.slice ae m cq) := by rw [(bcell st2).1 _ _ (by omega)]; exact c1_4
  have c2_5 : v2.cell? ⟨w.heap.size + 1, 0, none⟩ = some (.int .i64 o) := by rw [(bcell st2).1 _ _ (by omega)]; exact c1_5
  have c2_6 : v2.cell? ⟨w.heap.size + 1, 1, none⟩ = some (.int .i64 s) := by rw [(bcell st2).1 _ _ (by omega)]; exact c1_6
  have c2_7 : v2.cell? ⟨w.heap.size + 1, 2, none⟩ = some (.int .i64 ag2) := by rw [(bcell st2).1 _ _ (by omega)]; exact c1_7
  have c2_8 : v2.cell? ⟨w.heap.size + 1, 3, none⟩ = some (.slice bd n2 dp) := by rw [(bcell st2).1 _ _ (by omega)]; exact c1_8
  have c2_9 : v2.cell? ⟨w.heap.size + 1, 4, none⟩ = some (.slice be m2 dq) := by rw [(bcell st2).1 _ _ (by omega)]; exact c1_9
  have B2 : Hid (Below w.heap.size w v2) := B1.out.trans (st2.mono (by omega))
  have R2_0 : Hid (Row 2 v2 (lo) (hi) (.slice ad n cp) n (flat2 K)) := R1_0.out.below st2 (by omega)
  have R2_1 : Hid (Row 3 v2 (lo) (hi) (.slice ae m cq) m (flat T)) := R1_1.out.below st2 (by omega)
  have R2_2 : Hid (Row 2 v2 (lo2) (hi2) (.slice bd n2 dp) n2 (flat2 K2)) := R1_2.out.below st2 (by omega)
  have R2_3 : Hid (Row 3 v2 (lo2) (hi2) (.slice be m2 dq) m2 (flat T2)) := R1_3.out.below st2 (by omega)
  have d2_0 : w.heap.size < v2.heap.size := by omega
  have e2_0 : w.heap.size ≠ v2.heap.size := by omega
  have d2_1 : w.heap.size + 1 < v2.heap.size := by omega
  have e2_1 : w.heap.size + 1 ≠ v2.heap.size := by omega
  clear d1_0 e1_0 d1_1 e1_1 c1_0 c1_1 c1_2 c1_3 c1_4 c1_5 c1_6 c1_7 c1_8 c1_9 B1 st2 R1_0 R1_1 R1_2 R1_3 hb2
  have HB1 := B2
  have RR0 := R2_0
  have RR1 := R2_1
  have RR2 := R2_2
  have RR3 := R2_3
  go_wp2_with fail
  refine wp_region_held_drew (S := (fun w' => w'.cell? ⟨w.heap.size, 0, none⟩ = some (.int .i64 o) /\ w'.cell? ⟨w.heap.size, 1, none⟩ = some (.int .i64 s) /\ w'.cell? ⟨w.heap.size, 2, none⟩ = some (.int .i64 ag) /\ w'.cell? ⟨w.heap.size, 3, none⟩ = some (.slice ad n cp) /\ w'.cell? ⟨w.heap.size, 4, none⟩ = some (.slice ae m cq) /\ w'.cell? ⟨w.heap.size + 1, 0, none⟩ = some (.int .i64 o) /\ w'.cell? ⟨w.heap.size + 1, 1, none⟩ = some (.int .i64 s) /\ w'.cell? ⟨w.heap.size + 1, 2, none⟩ = some (.int .i64 ag2) /\ w'.cell? ⟨w.heap.size + 1, 3, none⟩ = some (.slice bd n2 dp) /\ w'.cell? ⟨w.heap.size + 1, 4, none⟩ = some (.slice be m2 dq) /\ v2.heap.size <= w'.heap.size /\ Below v2.heap.size v2 w')) (by kernel_rfl) ?_ (fun hHeld => ?_)
  · exact rs10_start c2_0 c2_1 c2_2 c2_3 c2_4 c2_5 c2_6 c2_7 c2_8 c2_9 (Below.refl _ _)
  refine step_read 0 31 rfl rfl (by kernel_rfl) (by kernel_rfl) (by kernel_rfl) (fun _ _ _ h => h) (by rfl) (v := ?_) (fun w hSw => ?_) (by assumption) ?_; rotate_left; (focus ((try dsimp only at hSw); go_simp; first | done | exact rfl)); simp only [List.set]
  refine step_read 2 33 rfl rfl (by kernel_rfl) (by kernel_rfl) (by kernel_rfl) (fun _ _ _ h => h) (by rfl) (v := ?_) (fun w hSw => ?_) (by assumption) ?_; rotate_left; (focus ((try dsimp only at hSw); go_simp; first | done | exact rfl)); simp only [List.set]
  refine wpAnyH_ready (rs := [1]) (by kernel_rfl) (by simp) ?_
  refine AllReadyH.cons rfl (fun Kc hK => ?_) (AllReadyH.nil)
  go_simp
  go_at_call 79
  have hsz1 := (rs10_out hHeld).1
  refine (slsum_any o s ag lo hi lo hi n m _ _ K T _ HK.out HT.out (RR0.out.below (rs10_out (by assumption)).2 (by omega)) (RR1.out.below (rs10_out (by assumption)).2 (by omega)) (by omega) (by omega)).mono ?_
  rw [<- HX.out]
  rintro e w1 ⟨rfl, hb1⟩
  have sz1 := hb1.size
  refine hK.out _ _ ?_ (fun hHeld => ?_)
  · exact rs10_keep (by omega) (by omega) (by omega) (by omega) (by omega) (by omega) (by omega) (by omega) (by omega) (by omega) (hb1.mono (by omega)) (by assumption)
  clear hK Kc
  refine wpAnyH_ready (rs := [3]) (by kernel_rfl) (by simp) ?_
  refine AllReadyH.cons rfl (fun Kc hK => ?_) (AllReadyH.nil)
  go_simp
  go_at_call 79
  have hsz2 := (rs10_out hHeld).1
  refine (slsum_any o s ag2 lo2 hi2 lo2 hi2 n2 m2 _ _ K2 T2 _ HK2.out HT2.out (RR2.out.below (rs10_out (by assumption)).2 (by omega)) (RR3.out.below (rs10_out (by assumption)).2 (by omega)) (by omega) (by omega)).mono ?_
  rw [<- HY.out]
  rintro e w2 ⟨rfl, hb2⟩
  have sz2 := hb2.size
  refine hK.out _ _ ?_ (fun hHeld => ?_)
  · exact rs10_keep (by omega) (by omega) (by omega) (by omega) (by omega) (by omega) (by omega) (by omega) (by omega) (by omega) (hb2.mono (by omega)) (by assumption)
  clear hK Kc
  refine step_read 4 35 rfl rfl (by kernel_rfl) (by kernel_rfl) (by kernel_rfl) (fun _ _ _ h => h) (by rfl) (v := ?_) (fun w hSw => ?_) (by assumption) ?_; rotate_left; (focus ((try dsimp only at hSw); go_simp; first | done | exact rfl)); simp only [List.set]
  refine wpAnyH_done (by kernel_rfl) ?_ _
  obtain ⟨k0, k1, k2, k3, k4, k5, k6, k7, k8, k9, hzz, hBB⟩ := hHeld
  have HBB := Lib.hid hBB
  clear hBB
  go_wp2_with fail
  go_at_call 99
  refine (sign_any (ag2 - ag) _).mono ?_
  rintro e wz ⟨rfl, rfl⟩
  go_wp2_with fail
  go_ret
  exact ⟨by rw [Hn.out]; rfl, HB1.out.trans (HBB.out.mono (by omega))⟩
set_option linter.unusedVariables false in
set_option maxRecDepth 100000 in
set_option maxHeartbeats 4000000 in
theorem snew_9 (o s ag o2 s2 ag2 : Int) (lo hi n m lo2 hi2 n2 m2 : Nat) (u v u2 v2 : Value) (K : List Lk) (T : List Ed) (K2 : List Lk) (T2 : List Ed) (w : World) (hK : K.length = n) (hT : T.length = m) (hK2 : K2.length = n2) (hT2 : T2.length = m2) (hr : LRow w lo hi u v n m (flat2 K) (flat T)) (hr2 : LRow w lo2 hi2 u2 v2 n2 m2 (flat2 K2) (flat T2)) (hh : hi <= w.heap.size) (hh2 : hi2 <= w.heap.size) (hv : lokB o s ag K T = true) (hv2 : lokB o2 s2 ag2 K2 T2 = true) (ho : o = o2) (hs : s = s2) (hd : lsum o s ag K T = lsum o2 s2 ag2 K2 T2) (ha : ag ≠ ag2) (h6 : ag ≠ 60) (h7 : ag2 ≠ 60) (h8 : ¬ 10 < ag - ag2) (h9 : 10 < ag2 - ag) :
    Calls Try.prog 70 #[.agg #[.int .i64 o, .int .i64 s, .int .i64 ag, u, v], .agg #[.int .i64 o2, .int .i64 s2, .int .i64 ag2, u2, v2]] w fun e w' => e = .returned (.int .i64 (newN o s ag o2 s2 ag2 K T K2 T2)) /\ Below w.heap.size w w' := by
  subst ho
  subst hs
  have HN : newN o s ag o s ag2 K T K2 T2 = sgn (ag2 - ag) := by rw [newN_yes hv hv2, if_neg (by simp), if_neg (by simp [hd])]; unfold ageN; rw [if_neg ha, if_neg (by omega), if_pos (.inr h9)]
  have hbd := lok_bd hv
  have hbd2 := lok_bd hv2
  obtain ⟨oa, ob, sa, sb, ga, gb, _, _⟩ := hbd
  obtain ⟨oc, od, sc, sd, gc, gd, _, _⟩ := hbd2
  have hsm := lsum_bd hv
  have hsm2 := lsum_bd hv2
  obtain ⟨sum0, sum1⟩ := hsm
  obtain ⟨sum2, sum3⟩ := hsm2
  obtain ⟨x, hx⟩ : ∃ x, x = lsum o s ag K T := ⟨_, rfl⟩
  have hy : x = lsum o s ag2 K2 T2 := by rw [hx]; exact hd
  have HX := Lib.hid hx
  have HY := Lib.hid hy
  have Hn := Lib.hid HN
  clear hd hx hy HN sum0 sum1 sum2 sum3
  have g1 : (ag == ag2) = false := by simp [ha]
  have g2 : (ag == 60) = false := by simp [h6]
  have g3 : (ag2 == 60) = false := by simp [h7]
  have Hh := Lib.hid (And.intro ha (And.intro h6 h7))
  clear ha h6 h7
  have Hv := Lib.hid hv
  have Hv2 := Lib.hid hv2
  clear hv hv2
  have R0 := Lib.hid hr.fst
  have R1 := Lib.hid hr.snd
  have R2 := Lib.hid hr2.fst
  have R3 := Lib.hid hr2.snd
  have HK := Lib.hid hK
  have HT := Lib.hid hT
  have HK2 := Lib.hid hK2
  have HT2 := Lib.hid hT2
  obtain ⟨ad, cp, ae, cq, rfl, rfl⟩ := hr.slice
  obtain ⟨bd, dp, be, dq, rfl, rfl⟩ := hr2.slice
  clear hr hr2 hK hT hK2 hT2
  go_enter Try.func70, Try.ntmps70
  go_wp2_with fail
  go_at_call 48
  refine (slok_any o s ag lo hi lo hi n m _ _ K T _ HK.out HT.out (R0.out.below (B := w.heap.size) (by go_grown) (by omega)) (R1.out.below (B := w.heap.size) (by go_grown) (by omega)) (by first | omega | (simp; omega)) (by first | omega | (simp; omega))).mono ?_
  rw [Hv.out]
  rintro e v1 ⟨rfl, hb1⟩
  have sz1 : w.heap.size + 2 <= v1.heap.size := by have hh := hb1.size; simp at hh; omega
  have st1 : Below w.heap.size w v1 := Below.trans (by go_grown) (hb1.mono (by simp <;> omega))
  have c1_0 : v1.cell? ⟨w.heap.size, 0, none⟩ = some (.int .i64 o) := by rw [(bcell hb1).1 _ _ (by simp <;> omega), old_box (by simp <;> omega)]; first | (rw [new_at (by simp)]; rfl) | simp
  have c1_1 : v1.cell? ⟨w.heap.size, 1, none⟩ = some (.int .i64 s) := by rw [(bcell hb1).1 _ _ (by simp <;> omega), old_box (by simp <;> omega)]; first | (rw [new_at (by simp)]; rfl) | simp
  have c1_2 : v1.cell? ⟨w.heap.size, 2, none⟩ = some (.int .i64 ag) := by rw [(bcell hb1).1 _ _ (by simp <;> omega), old_box (by simp <;> omega)]; first | (rw [new_at (by simp)]; rfl) | simp
  have c1_3 : v1.cell? ⟨w.heap.size, 3, none⟩ = some (.slice ad n cp) := by rw [(bcell hb1).1 _ _ (by simp <;> omega), old_box (by simp <;> omega)]; first | (rw [new_at (by simp)]; rfl) | simp
  have c1_4 : v1.cell? ⟨w.heap.size, 4, none⟩ = some (.slice ae m cq) := by rw [(bcell hb1).1 _ _ (by simp <;> omega), old_box (by simp <;> omega)]; first | (rw [new_at (by simp)]; rfl) | simp
  have c1_5 : v1.cell? ⟨w.heap.size + 1, 0, none⟩ = some (.int .i64 o) := by rw [(bcell hb1).1 _ _ (by simp)]; first | (rw [new_at (by simp)]; rfl) | simp
  have c1_6 : v1.cell? ⟨w.heap.size + 1, 1, none⟩ = some (.int .i64 s) := by rw [(bcell hb1).1 _ _ (by simp)]; first | (rw [new_at (by simp)]; rfl) | simp
  have c1_7 : v1.cell? ⟨w.heap.size + 1, 2, none⟩ = some (.int .i64 ag2) := by rw [(bcell hb1).1 _ _ (by simp)]; first | (rw [new_at (by simp)]; rfl) | simp
  have c1_8 : v1.cell? ⟨w.heap.size + 1, 3, none⟩ = some (.slice bd n2 dp) := by rw [(bcell hb1).1 _ _ (by simp)]; first | (rw [new_at (by simp)]; rfl) | simp
  have c1_9 : v1.cell? ⟨w.heap.size + 1, 4, none⟩ = some (.slice be m2 dq) := by rw [(bcell hb1).1 _ _ (by simp)]; first | (rw [new_at (by simp)]; rfl) | simp
  have B1 : Hid (Below w.heap.size w v1) := st1
  have R1_0 : Hid (Row 2 v1 (lo) (hi) (.slice ad n cp) n (flat2 K)) := R0.out.below st1 (by omega)
  have R1_1 : Hid (Row 3 v1 (lo) (hi) (.slice ae m cq) m (flat T)) := R1.out.below st1 (by omega)
  have R1_2 : Hid (Row 2 v1 (lo2) (hi2) (.slice bd n2 dp) n2 (flat2 K2)) := R2.out.below st1 (by omega)
  have R1_3 : Hid (Row 3 v1 (lo2) (hi2) (.slice be m2 dq) m2 (flat T2)) := R3.out.below st1 (by omega)
  have d1_0 : w.heap.size < v1.heap.size := by omega
  have e1_0 : w.heap.size ≠ v1.heap.size := by omega
  have d1_1 : w.heap.size + 1 < v1.heap.size := by omega
  have e1_1 : w.heap.size + 1 ≠ v1.heap.size := by omega
  clear st1 R0 R1 R2 R3 hb1
  go_wp2_with fail
  go_at_call 48
  refine (slok_any o s ag2 lo2 hi2 lo2 hi2 n2 m2 _ _ K2 T2 _ HK2.out HT2.out R1_2.out R1_3.out (by first | omega | (simp; omega)) (by first | omega | (simp; omega))).mono ?_
  rw [Hv2.out]
  rintro e v2 ⟨rfl, hb2⟩
  have sz2 : v1.heap.size <= v2.heap.size := hb2.size
  have st2 : Below v1.heap.size v1 v2 := hb2
  have c2_0 : v2.cell? ⟨w.heap.size, 0, none⟩ = some (.int .i64 o) := by rw [(bcell st2).1 _ _ (by omega)]; exact c1_0
  have c2_1 : v2.cell? ⟨w.heap.size, 1, none⟩ = some (.int .i64 s) := by rw [(bcell st2).1 _ _ (by omega)]; exact c1_1
  have c2_2 : v2.cell? ⟨w.heap.size, 2, none⟩ = some (.int .i64 ag) := by rw [(bcell st2).1 _ _ (by omega)]; exact c1_2
  have c2_3 : v2.cell? ⟨w.heap.size, 3, none⟩ = some (.slice ad n cp) := by rw [(bcell st2).1 _ _ (by omega)]; exact c1_3
  have c2_4 : v2.cell? ⟨w.heap.size, 4, none⟩ = some (.slice ae m cq) := by rw [(bcell st2).1 _ _ (by omega)]; exact c1_4
  have c2_5 : v2.cell? ⟨w.heap.size + 1, 0, none⟩ = some (.int .i64 o) := by rw [(bcell st2).1 _ _ (by omega)]; exact c1_5
  have c2_6 : v2.cell? ⟨w.heap.size + 1, 1, none⟩ = some (.int .i64 s) := by rw [(bcell st2).1 _ _ (by omega)]; exact c1_6
  have c2_7 : v2.cell? ⟨w.heap.size + 1, 2, none⟩ = some (.int .i64 ag2) := by rw [(bcell st2).1 _ _ (by omega)]; exact c1_7
  have c2_8 : v2.cell? ⟨w.heap.size + 1, 3, none⟩ = some (.slice bd n2 dp) := by rw [(bcell st2).1 _ _ (by omega)]; exact c1_8
  have c2_9 : v2.cell? ⟨w.heap.size + 1, 4, none⟩ = some (.slice be m2 dq) := by rw [(bcell st2).1 _ _ (by omega)]; exact c1_9
  have B2 : Hid (Below w.heap.size w v2) := B1.out.trans (st2.mono (by omega))
  have R2_0 : Hid (Row 2 v2 (lo) (hi) (.slice ad n cp) n (flat2 K)) := R1_0.out.below st2 (by omega)
  have R2_1 : Hid (Row 3 v2 (lo) (hi) (.slice ae m cq) m (flat T)) := R1_1.out.below st2 (by omega)
  have R2_2 : Hid (Row 2 v2 (lo2) (hi2) (.slice bd n2 dp) n2 (flat2 K2)) := R1_2.out.below st2 (by omega)
  have R2_3 : Hid (Row 3 v2 (lo2) (hi2) (.slice be m2 dq) m2 (flat T2)) := R1_3.out.below st2 (by omega)
  have d2_0 : w.heap.size < v2.heap.size := by omega
  have e2_0 : w.heap.size ≠ v2.heap.size := by omega
  have d2_1 : w.heap.size + 1 < v2.heap.size := by omega
  have e2_1 : w.heap.size + 1 ≠ v2.heap.size := by omega
  clear d1_0 e1_0 d1_1 e1_1 c1_0 c1_1 c1_2 c1_3 c1_4 c1_5 c1_6 c1_7 c1_8 c1_9 B1 st2 R1_0 R1_1 R1_2 R1_3 hb2
  have HB1 := B2
  have RR0 := R2_0
  have RR1 := R2_1
  have RR2 := R2_2
  have RR3 := R2_3
  go_wp2_with fail
  refine wp_region_held_drew (S := (fun w' => w'.cell? ⟨w.heap.size, 0, none⟩ = some (.int .i64 o) /\ w'.cell? ⟨w.heap.size, 1, none⟩ = some (.int .i64 s) /\ w'.cell? ⟨w.heap.size, 2, none⟩ = some (.int .i64 ag) /\ w'.cell? ⟨w.heap.size, 3, none⟩ = some (.slice ad n cp) /\ w'.cell? ⟨w.heap.size, 4, none⟩ = some (.slice ae m cq) /\ w'.cell? ⟨w.heap.size + 1, 0, none⟩ = some (.int .i64 o) /\ w'.cell? ⟨w.heap.size + 1, 1, none⟩ = some (.int .i64 s) /\ w'.cell? ⟨w.heap.size + 1, 2, none⟩ = some (.int .i64 ag2) /\ w'.cell? ⟨w.heap.size + 1, 3, none⟩ = some (.slice bd n2 dp) /\ w'.cell? ⟨w.heap.size + 1, 4, none⟩ = some (.slice be m2 dq) /\ v2.heap.size <= w'.heap.size /\ Below v2.heap.size v2 w')) (by kernel_rfl) ?_ (fun hHeld => ?_)
  · exact rs10_start c2_0 c2_1 c2_2 c2_3 c2_4 c2_5 c2_6 c2_7 c2_8 c2_9 (Below.refl _ _)
  refine step_read 0 31 rfl rfl (by kernel_rfl) (by kernel_rfl) (by kernel_rfl) (fun _ _ _ h => h) (by rfl) (v := ?_) (fun w hSw => ?_) (by assumption) ?_; rotate_left; (focus ((try dsimp only at hSw); go_simp; first | done | exact rfl)); simp only [List.set]
  refine step_read 2 33 rfl rfl (by kernel_rfl) (by kernel_rfl) (by kernel_rfl) (fun _ _ _ h => h) (by rfl) (v := ?_) (fun w hSw => ?_) (by assumption) ?_; rotate_left; (focus ((try dsimp only at hSw); go_simp; first | done | exact rfl)); simp only [List.set]
  refine wpAnyH_ready (rs := [1]) (by kernel_rfl) (by simp) ?_
  refine AllReadyH.cons rfl (fun Kc hK => ?_) (AllReadyH.nil)
  go_simp
  go_at_call 79
  have hsz1 := (rs10_out hHeld).1
  refine (slsum_any o s ag lo hi lo hi n m _ _ K T _ HK.out HT.out (RR0.out.below (rs10_out (by assumption)).2 (by omega)) (RR1.out.below (rs10_out (by assumption)).2 (by omega)) (by omega) (by omega)).mono ?_
  rw [<- HX.out]
  rintro e w1 ⟨rfl, hb1⟩
  have sz1 := hb1.size
  refine hK.out _ _ ?_ (fun hHeld => ?_)
  · exact rs10_keep (by omega) (by omega) (by omega) (by omega) (by omega) (by omega) (by omega) (by omega) (by omega) (by omega) (hb1.mono (by omega)) (by assumption)
  clear hK Kc
  refine wpAnyH_ready (rs := [3]) (by kernel_rfl) (by simp) ?_
  refine AllReadyH.cons rfl (fun Kc hK => ?_) (AllReadyH.nil)
  go_simp
  go_at_call 79
  have hsz2 := (rs10_out hHeld).1
  refine (slsum_any o s ag2 lo2 hi2 lo2 hi2 n2 m2 _ _ K2 T2 _ HK2.out HT2.out (RR2.out.below (rs10_out (by assumption)).2 (by omega)) (RR3.out.below (rs10_out (by assumption)).2 (by omega)) (by omega) (by omega)).mono ?_
  rw [<- HY.out]
  rintro e w2 ⟨rfl, hb2⟩
  have sz2 := hb2.size
  refine hK.out _ _ ?_ (fun hHeld => ?_)
  · exact rs10_keep (by omega) (by omega) (by omega) (by omega) (by omega) (by omega) (by omega) (by omega) (by omega) (by omega) (hb2.mono (by omega)) (by assumption)
  clear hK Kc
  refine step_read 4 35 rfl rfl (by kernel_rfl) (by kernel_rfl) (by kernel_rfl) (fun _ _ _ h => h) (by rfl) (v := ?_) (fun w hSw => ?_) (by assumption) ?_; rotate_left; (focus ((try dsimp only at hSw); go_simp; first | done | exact rfl)); simp only [List.set]
  refine wpAnyH_done (by kernel_rfl) ?_ _
  obtain ⟨k0, k1, k2, k3, k4, k5, k6, k7, k8, k9, hzz, hBB⟩ := hHeld
  have HBB := Lib.hid hBB
  clear hBB
  go_wp2_with fail
  go_at_call 99
  refine (sign_any (ag2 - ag) _).mono ?_
  rintro e wz ⟨rfl, rfl⟩
  go_wp2_with fail
  go_ret
  exact ⟨by rw [Hn.out]; rfl, HB1.out.trans (HBB.out.mono (by omega))⟩
set_option linter.unusedVariables false in
set_option maxRecDepth 100000 in
set_option maxHeartbeats 4000000 in
theorem snew_10 (o s ag o2 s2 ag2 : Int) (lo hi n m lo2 hi2 n2 m2 : Nat) (u v u2 v2 : Value) (K : List Lk) (T : List Ed) (K2 : List Lk) (T2 : List Ed) (w : World) (hK : K.length = n) (hT : T.length = m) (hK2 : K2.length = n2) (hT2 : T2.length = m2) (hr : LRow w lo hi u v n m (flat2 K) (flat T)) (hr2 : LRow w lo2 hi2 u2 v2 n2 m2 (flat2 K2) (flat T2)) (hh : hi <= w.heap.size) (hh2 : hi2 <= w.heap.size) (hv : lokB o s ag K T = true) (hv2 : lokB o2 s2 ag2 K2 T2 = true) (ho : o = o2) (hs : s = s2) (hd : lsum o s ag K T = lsum o2 s2 ag2 K2 T2) (ha : ag ≠ ag2) (h6 : ag ≠ 60) (h7 : ag2 ≠ 60) (h8 : ¬ 10 < ag - ag2) (h9 : ¬ 10 < ag2 - ag) :
    Calls Try.prog 70 #[.agg #[.int .i64 o, .int .i64 s, .int .i64 ag, u, v], .agg #[.int .i64 o2, .int .i64 s2, .int .i64 ag2, u2, v2]] w fun e w' => e = .returned (.int .i64 (newN o s ag o2 s2 ag2 K T K2 T2)) /\ Below w.heap.size w w' := by
  subst ho
  subst hs
  have HN : newN o s ag o s ag2 K T K2 T2 = 0 := by rw [newN_yes hv hv2, if_neg (by simp), if_neg (by simp [hd])]; unfold ageN; rw [if_neg ha, if_neg (by omega), if_neg (by omega)]
  have hbd := lok_bd hv
  have hbd2 := lok_bd hv2
  obtain ⟨oa, ob, sa, sb, ga, gb, _, _⟩ := hbd
  obtain ⟨oc, od, sc, sd, gc, gd, _, _⟩ := hbd2
  have hsm := lsum_bd hv
  have hsm2 := lsum_bd hv2
  obtain ⟨sum0, sum1⟩ := hsm
  obtain ⟨sum2, sum3⟩ := hsm2
  obtain ⟨x, hx⟩ : ∃ x, x = lsum o s ag K T := ⟨_, rfl⟩
  have hy : x = lsum o s ag2 K2 T2 := by rw [hx]; exact hd
  have HX := Lib.hid hx
  have HY := Lib.hid hy
  have Hn := Lib.hid HN
  clear hd hx hy HN sum0 sum1 sum2 sum3
  have g1 : (ag == ag2) = false := by simp [ha]
  have g2 : (ag == 60) = false := by simp [h6]
  have g3 : (ag2 == 60) = false := by simp [h7]
  have Hh := Lib.hid (And.intro ha (And.intro h6 h7))
  clear ha h6 h7
  have Hv := Lib.hid hv
  have Hv2 := Lib.hid hv2
  clear hv hv2
  have R0 := Lib.hid hr.fst
  have R1 := Lib.hid hr.snd
  have R2 := Lib.hid hr2.fst
  have R3 := Lib.hid hr2.snd
  have HK := Lib.hid hK
  have HT := Lib.hid hT
  have HK2 := Lib.hid hK2
  have HT2 := Lib.hid hT2
  obtain ⟨ad, cp, ae, cq, rfl, rfl⟩ := hr.slice
  obtain ⟨bd, dp, be, dq, rfl, rfl⟩ := hr2.slice
  clear hr hr2 hK hT hK2 hT2
  go_enter Try.func70, Try.ntmps70
  go_wp2_with fail
  go_at_call 48
  refine (slok_any o s ag lo hi lo hi n m _ _ K T _ HK.out HT.out (R0.out.below (B := w.heap.size) (by go_grown) (by omega)) (R1.out.below (B := w.heap.size) (by go_grown) (by omega)) (by first | omega | (simp; omega)) (by first | omega | (simp; omega))).mono ?_
  rw [Hv.out]
  rintro e v1 ⟨rfl, hb1⟩
  have sz1 : w.heap.size + 2 <= v1.heap.size := by have hh := hb1.size; simp at hh; omega
  have st1 : Below w.heap.size w v1 := Below.trans (by go_grown) (hb1.mono (by simp <;> omega))
  have c1_0 : v1.cell? ⟨w.heap.size, 0, none⟩ = some (.int .i64 o) := by rw [(bcell hb1).1 _ _ (by simp <;> omega), old_box (by simp <;> omega)]; first | (rw [new_at (by simp)]; rfl) | simp
  have c1_1 : v1.cell? ⟨w.heap.size, 1, none⟩ = some (.int .i64 s) := by rw [(bcell hb1).1 _ _ (by simp <;> omega), old_box (by simp <;> omega)]; first | (rw [new_at (by simp)]; rfl) | simp
  have c1_2 : v1.cell? ⟨w.heap.size, 2, none⟩ = some (.int .i64 ag) := by rw [(bcell hb1).1 _ _ (by simp <;> omega), old_box (by simp <;> omega)]; first | (rw [new_at (by simp)]; rfl) | simp
  have c1_3 : v1.cell? ⟨w.heap.size, 3, none⟩ = some (.slice ad n cp) := by rw [(bcell hb1).1 _ _ (by simp <;> omega), old_box (by simp <;> omega)]; first | (rw [new_at (by simp)]; rfl) | simp
  have c1_4 : v1.cell? ⟨w.heap.size, 4, none⟩ = some (.slice ae m cq) := by rw [(bcell hb1).1 _ _ (by simp <;> omega), old_box (by simp <;> omega)]; first | (rw [new_at (by simp)]; rfl) | simp
  have c1_5 : v1.cell? ⟨w.heap.size + 1, 0, none⟩ = some (.int .i64 o) := by rw [(bcell hb1).1 _ _ (by simp)]; first | (rw [new_at (by simp)]; rfl) | simp
  have c1_6 : v1.cell? ⟨w.heap.size + 1, 1, none⟩ = some (.int .i64 s) := by rw [(bcell hb1).1 _ _ (by simp)]; first | (rw [new_at (by simp)]; rfl) | simp
  have c1_7 : v1.cell? ⟨w.heap.size + 1, 2, none⟩ = some (.int .i64 ag2) := by rw [(bcell hb1).1 _ _ (by simp)]; first | (rw [new_at (by simp)]; rfl) | simp
  have c1_8 : v1.cell? ⟨w.heap.size + 1, 3, none⟩ = some (.slice bd n2 dp) := by rw [(bcell hb1).1 _ _ (by simp)]; first | (rw [new_at (by simp)]; rfl) | simp
  have c1_9 : v1.cell? ⟨w.heap.size + 1, 4, none⟩ = some (.slice be m2 dq) := by rw [(bcell hb1).1 _ _ (by simp)]; first | (rw [new_at (by simp)]; rfl) | simp
  have B1 : Hid (Below w.heap.size w v1) := st1
  have R1_0 : Hid (Row 2 v1 (lo) (hi) (.slice ad n cp) n (flat2 K)) := R0.out.below st1 (by omega)
  have R1_1 : Hid (Row 3 v1 (lo) (hi) (.slice ae m cq) m (flat T)) := R1.out.below st1 (by omega)
  have R1_2 : Hid (Row 2 v1 (lo2) (hi2) (.slice bd n2 dp) n2 (flat2 K2)) := R2.out.below st1 (by omega)
  have R1_3 : Hid (Row 3 v1 (lo2) (hi2) (.slice be m2 dq) m2 (flat T2)) := R3.out.below st1 (by omega)
  have d1_0 : w.heap.size < v1.heap.size := by omega
  have e1_0 : w.heap.size ≠ v1.heap.size := by omega
  have d1_1 : w.heap.size + 1 < v1.heap.size := by omega
  have e1_1 : w.heap.size + 1 ≠ v1.heap.size := by omega
  clear st1 R0 R1 R2 R3 hb1
  go_wp2_with fail
  go_at_call 48
  refine (slok_any o s ag2 lo2 hi2 lo2 hi2 n2 m2 _ _ K2 T2 _ HK2.out HT2.out R1_2.out R1_3.out (by first | omega | (simp; omega)) (by first | omega | (simp; omega))).mono ?_
  rw [Hv2.out]
  rintro e v2 ⟨rfl, hb2⟩
  have sz2 : v1.heap.size <= v2.heap.size := hb2.size
  have st2 : Below v1.heap.size v1 v2 := hb2
  have c2_0 : v2.cell? ⟨w.heap.size, 0, none⟩ = some (.int .i64 o) := by rw [(bcell st2).1 _ _ (by omega)]; exact c1_0
  have c2_1 : v2.cell? ⟨w.heap.size, 1, none⟩ = some (.int .i64 s) := by rw [(bcell st2).1 _ _ (by omega)]; exact c1_1
  have c2_2 : v2.cell? ⟨w.heap.size, 2, none⟩ = some (.int .i64 ag) := by rw [(bcell st2).1 _ _ (by omega)]; exact c1_2
  have c2_3 : v2.cell? ⟨w.heap.size, 3, none⟩ = some (.slice ad n cp) := by rw [(bcell st2).1 _ _ (by omega)]; exact c1_3
  have c2_4 : v2.cell? ⟨w.heap.size, 4, none⟩ = some (.slice ae m cq) := by rw [(bcell st2).1 _ _ (by omega)]; exact c1_4
  have c2_5 : v2.cell? ⟨w.heap.size + 1, 0, none⟩ = some (.int .i64 o) := by rw [(bcell st2).1 _ _ (by omega)]; exact c1_5
  have c2_6 : v2.cell? ⟨w.heap.size + 1, 1, none⟩ = some (.int .i64 s) := by rw [(bcell st2).1 _ _ (by omega)]; exact c1_6
  have c2_7 : v2.cell? ⟨w.heap.size + 1, 2, none⟩ = some (.int .i64 ag2) := by rw [(bcell st2).1 _ _ (by omega)]; exact c1_7
  have c2_8 : v2.cell? ⟨w.heap.size + 1, 3, none⟩ = some (.slice bd n2 dp) := by rw [(bcell st2).1 _ _ (by omega)]; exact c1_8
  have c2_9 : v2.cell? ⟨w.heap.size + 1, 4, none⟩ = some (.slice be m2 dq) := by rw [(bcell st2).1 _ _ (by omega)]; exact c1_9
  have B2 : Hid (Below w.heap.size w v2) := B1.out.trans (st2.mono (by omega))
  have R2_0 : Hid (Row 2 v2 (lo) (hi) (.slice ad n cp) n (flat2 K)) := R1_0.out.below st2 (by omega)
  have R2_1 : Hid (Row 3 v2 (lo) (hi) (.slice ae m cq) m (flat T)) := R1_1.out.below st2 (by omega)
  have R2_2 : Hid (Row 2 v2 (lo2) (hi2) (.slice bd n2 dp) n2 (flat2 K2)) := R1_2.out.below st2 (by omega)
  have R2_3 : Hid (Row 3 v2 (lo2) (hi2) (.slice be m2 dq) m2 (flat T2)) := R1_3.out.below st2 (by omega)
  have d2_0 : w.heap.size < v2.heap.size := by omega
  have e2_0 : w.heap.size ≠ v2.heap.size := by omega
  have d2_1 : w.heap.size + 1 < v2.heap.size := by omega
  have e2_1 : w.heap.size + 1 ≠ v2.heap.size := by omega
  clear d1_0 e1_0 d1_1 e1_1 c1_0 c1_1 c1_2 c1_3 c1_4 c1_5 c1_6 c1_7 c1_8 c1_9 B1 st2 R1_0 R1_1 R1_2 R1_3 hb2
  have HB1 := B2
  have RR0 := R2_0
  have RR1 := R2_1
  have RR2 := R2_2
  have RR3 := R2_3
  go_wp2_with fail
  refine wp_region_held_drew (S := (fun w' => w'.cell? ⟨w.heap.size, 0, none⟩ = some (.int .i64 o) /\ w'.cell? ⟨w.heap.size, 1, none⟩ = some (.int .i64 s) /\ w'.cell? ⟨w.heap.size, 2, none⟩ = some (.int .i64 ag) /\ w'.cell? ⟨w.heap.size, 3, none⟩ = some (.slice ad n cp) /\ w'.cell? ⟨w.heap.size, 4, none⟩ = some (.slice ae m cq) /\ w'.cell? ⟨w.heap.size + 1, 0, none⟩ = some (.int .i64 o) /\ w'.cell? ⟨w.heap.size + 1, 1, none⟩ = some (.int .i64 s) /\ w'.cell? ⟨w.heap.size + 1, 2, none⟩ = some (.int .i64 ag2) /\ w'.cell? ⟨w.heap.size + 1, 3, none⟩ = some (.slice bd n2 dp) /\ w'.cell? ⟨w.heap.size + 1, 4, none⟩ = some (.slice be m2 dq) /\ v2.heap.size <= w'.heap.size /\ Below v2.heap.size v2 w')) (by kernel_rfl) ?_ (fun hHeld => ?_)
  · exact rs10_start c2_0 c2_1 c2_2 c2_3 c2_4 c2_5 c2_6 c2_7 c2_8 c2_9 (Below.refl _ _)
  refine step_read 0 31 rfl rfl (by kernel_rfl) (by kernel_rfl) (by kernel_rfl) (fun _ _ _ h => h) (by rfl) (v := ?_) (fun w hSw => ?_) (by assumption) ?_; rotate_left; (focus ((try dsimp only at hSw); go_simp; first | done | exact rfl)); simp only [List.set]
  refine step_read 2 33 rfl rfl (by kernel_rfl) (by kernel_rfl) (by kernel_rfl) (fun _ _ _ h => h) (by rfl) (v := ?_) (fun w hSw => ?_) (by assumption) ?_; rotate_left; (focus ((try dsimp only at hSw); go_simp; first | done | exact rfl)); simp only [List.set]
  refine wpAnyH_ready (rs := [1]) (by kernel_rfl) (by simp) ?_
  refine AllReadyH.cons rfl (fun Kc hK => ?_) (AllReadyH.nil)
  go_simp
  go_at_call 79
  have hsz1 := (rs10_out hHeld).1
  refine (slsum_any o s ag lo hi lo hi n m _ _ K T _ HK.out HT.out (RR0.out.below (rs10_out (by assumption)).2 (by omega)) (RR1.out.below (rs10_out (by assumption)).2 (by omega)) (by omega) (by omega)).mono ?_
  rw [<- HX.out]
  rintro e w1 ⟨rfl, hb1⟩
  have sz1 := hb1.size
  refine hK.out _ _ ?_ (fun hHeld => ?_)
  · exact rs10_keep (by omega) (by omega) (by omega) (by omega) (by omega) (by omega) (by omega) (by omega) (by omega) (by omega) (hb1.mono (by omega)) (by assumption)
  clear hK Kc
  refine wpAnyH_ready (rs := [3]) (by kernel_rfl) (by simp) ?_
  refine AllReadyH.cons rfl (fun Kc hK => ?_) (AllReadyH.nil)
  go_simp
  go_at_call 79
  have hsz2 := (rs10_out hHeld).1
  refine (slsum_any o s ag2 lo2 hi2 lo2 hi2 n2 m2 _ _ K2 T2 _ HK2.out HT2.out (RR2.out.below (rs10_out (by assumption)).2 (by omega)) (RR3.out.below (rs10_out (by assumption)).2 (by omega)) (by omega) (by omega)).mono ?_
  rw [<- HY.out]
  rintro e w2 ⟨rfl, hb2⟩
  have sz2 := hb2.size
  refine hK.out _ _ ?_ (fun hHeld => ?_)
  · exact rs10_keep (by omega) (by omega) (by omega) (by omega) (by omega) (by omega) (by omega) (by omega) (by omega) (by omega) (hb2.mono (by omega)) (by assumption)
  clear hK Kc
  refine step_read 4 35 rfl rfl (by kernel_rfl) (by kernel_rfl) (by kernel_rfl) (fun _ _ _ h => h) (by rfl) (v := ?_) (fun w hSw => ?_) (by assumption) ?_; rotate_left; (focus ((try dsimp only at hSw); go_simp; first | done | exact rfl)); simp only [List.set]
  refine wpAnyH_done (by kernel_rfl) ?_ _
  obtain ⟨k0, k1, k2, k3, k4, k5, k6, k7, k8, k9, hzz, hBB⟩ := hHeld
  have HBB := Lib.hid hBB
  clear hBB
  go_wp2_with fail
  go_ret
  exact ⟨by rw [Hn.out]; rfl, HB1.out.trans (HBB.out.mono (by omega))⟩
theorem snew_any (o s ag o2 s2 ag2 : Int) (lo hi n m lo2 hi2 n2 m2 : Nat) (u v u2 v2 : Value) (K : List Lk) (T : List Ed) (K2 : List Lk) (T2 : List Ed) (w : World) (hK : K.length = n) (hT : T.length = m) (hK2 : K2.length = n2) (hT2 : T2.length = m2) (hr : LRow w lo hi u v n m (flat2 K) (flat T)) (hr2 : LRow w lo2 hi2 u2 v2 n2 m2 (flat2 K2) (flat T2)) (hh : hi <= w.heap.size) (hh2 : hi2 <= w.heap.size) :
    Calls Try.prog 70 #[.agg #[.int .i64 o, .int .i64 s, .int .i64 ag, u, v], .agg #[.int .i64 o2, .int .i64 s2, .int .i64 ag2, u2, v2]] w fun e w' => e = .returned (.int .i64 (newN o s ag o2 s2 ag2 K T K2 T2)) /\ Below w.heap.size w w' := by
  cases hv : lokB o s ag K T
  · exact snew_0 o s ag o2 s2 ag2 lo hi n m lo2 hi2 n2 m2 u v u2 v2 K T K2 T2 w hK hT hK2 hT2 hr hr2 hh hh2 hv
  cases hv2 : lokB o2 s2 ag2 K2 T2
  · exact snew_1 o s ag o2 s2 ag2 lo hi n m lo2 hi2 n2 m2 u v u2 v2 K T K2 T2 w hK hT hK2 hT2 hr hr2 hh hh2 hv hv2
  by_cases ho : o = o2
  rotate_left
  · exact snew_2 o s ag o2 s2 ag2 lo hi n m lo2 hi2 n2 m2 u v u2 v2 K T K2 T2 w hK hT hK2 hT2 hr hr2 hh hh2 hv hv2 ho
  by_cases hs : s = s2
  rotate_left
  · exact snew_3 o s ag o2 s2 ag2 lo hi n m lo2 hi2 n2 m2 u v u2 v2 K T K2 T2 w hK hT hK2 hT2 hr hr2 hh hh2 hv hv2 ho hs
  by_cases hd : lsum o s ag K T = lsum o2 s2 ag2 K2 T2
  rotate_left
  · exact snew_4 o s ag o2 s2 ag2 lo hi n m lo2 hi2 n2 m2 u v u2 v2 K T K2 T2 w hK hT hK2 hT2 hr hr2 hh hh2 hv hv2 ho hs hd
  by_cases ha : ag = ag2
  · exact snew_5 o s ag o2 s2 ag2 lo hi n m lo2 hi2 n2 m2 u v u2 v2 K T K2 T2 w hK hT hK2 hT2 hr hr2 hh hh2 hv hv2 ho hs hd ha
  by_cases h6 : ag = 60
  · exact snew_6 o s ag o2 s2 ag2 lo hi n m lo2 hi2 n2 m2 u v u2 v2 K T K2 T2 w hK hT hK2 hT2 hr hr2 hh hh2 hv hv2 ho hs hd ha h6
  by_cases h7 : ag2 = 60
  · exact snew_7 o s ag o2 s2 ag2 lo hi n m lo2 hi2 n2 m2 u v u2 v2 K T K2 T2 w hK hT hK2 hT2 hr hr2 hh hh2 hv hv2 ho hs hd ha h6 h7
  by_cases h8 : 10 < ag - ag2
  · exact snew_8 o s ag o2 s2 ag2 lo hi n m lo2 hi2 n2 m2 u v u2 v2 K T K2 T2 w hK hT hK2 hT2 hr hr2 hh hh2 hv hv2 ho hs hd ha h6 h7 h8
  by_cases h9 : 10 < ag2 - ag
  · exact snew_9 o s ag o2 s2 ag2 lo hi n m lo2 hi2 n2 m2 u v u2 v2 K T K2 T2 w hK hT hK2 hT2 hr hr2 hh hh2 hv hv2 ho hs hd ha h6 h7 h8 h9
  · exact snew_10 o s ag o2 s2 ag2 lo hi n m lo2 hi2 n2 m2 u v u2 v2 K T K2 T2 w hK hT hK2 hT2 hr hr2 hh hh2 hv hv2 ho hs hd ha h6 h7 h8 h9
end Go.Proofs.Ytfpafjdakipccaa
