/- Install of the specification: a newer advertisement. -/
import Derived.Test.YtfpafjdakipccaaSi
import Derived.Deep.DeepCutAuto
namespace Go.Proofs.Ytfpafjdakipccaa
open Go.RowKit
set_option maxRecDepth 100000 in
set_option maxHeartbeats 8000000 in
theorem sins_7 (D : List Ls) (l : Ls) (lo hi lo2 hi2 : Nat) (v u x : Value) (w : World) (hr : DRow w lo hi v D) (hr2 : LRow w lo2 hi2 u x l.K.length l.T.length (flat2 l.K) (flat l.T)) (hh : hi <= w.heap.size) (hh2 : hi2 <= w.heap.size) (_hd : dtot D <= 1048576) (hv : dokB D = true) (hl : l.ok = true) (old : Ls) (hf : dfind D l.o = some old) (hz : newL l old = 1) :
    Calls Try.prog 29 #[.agg #[v], .agg #[.int .i64 l.o, .int .i64 l.s, .int .i64 l.g, u, x]] w fun e w' => SinsPost D l w e w' := by
  have hcode : icode D l = 0 := by rw [icode_ok hv hl, hf]; show (if newL l old = 1 then _ else if newL l old = 0 then _ else _) = _; rw [hz]; first | done | decide
  have HQ := Lib.hid (flv_some hv hf).1
  have HB := Lib.hid (flv_some hv hf).2
  have HC := Lib.hid hcode
  have HV := Lib.hid hv
  have HL := Lib.hid ((Ls.ok_def l).trans hl)
  have HOK := Lib.hid hl
  have HW : Hid (newN l.o l.s l.g old.o old.s old.g l.K l.T old.K old.T = 1) := Lib.hid hz
  clear hv hl hf hz hcode
  have R0 := Lib.hid hr
  have L0 := Lib.hid hr2
  have hr' := hr
  obtain ⟨a, c, us, xs, bs, ev, X⟩ := hr'
  subst ev
  obtain ⟨u1, e1, u2, e2, q1, q2⟩ := hr2.slice
  subst q1 q2
  obtain ⟨n, hn⟩ : ∃ n, n = D.length := ⟨_, rfl⟩
  rw [<- hn] at R0 ⊢
  have HN := Lib.hid hn
  have HX := Lib.hid X
  clear X hr2 hn hr
  have HLR := L0
  have hbl := Ls.ok_bd HOK.out
  have hm1 : l.K.length <= 1048576 := by omega
  have hm2 : l.T.length <= 1048576 := by omega
  have hn10 := dokB_len HV.out
  rw [<- HN.out] at hn10
  clear hbl
  obtain ⟨iL, hi0, hz0, hz1, hz2⟩ := info_parts Try.info33
  have IL := Lib.hid (And.intro hi0 (And.intro hz0 (And.intro hz1 hz2)))
  clear hi0 hz0 hz1 hz2
  go_enter Try.func29, Try.ntmps29
  go_wp2_with fail
  go_at_call 14
  refine (sdbok_any D lo hi _ _ (R0.out.below (B := w.heap.size) (by go_grown) (by omega)) (by first | omega | (simp; omega) | simp)).mono ?_
  rw [HV.out]
  rintro e v1 ⟨rfl, hb1⟩
  have sz1 : w.heap.size + 3 <= v1.heap.size := by have hh := hb1.size; simp at hh; omega
  have st1 : Below w.heap.size w v1 := Below.trans (by go_grown) (hb1.mono (by simp <;> omega))
  have c1_0 : v1.cell? ⟨w.heap.size, 0, none⟩ = some (.slice a n c) := by rw [(bcell hb1).1 _ _ (by simp <;> omega), old_box (by simp <;> omega), old_box (by simp <;> omega)]; first | (rw [new_at (by simp)]; rfl) | simp
  have c1_1 : v1.cell? ⟨w.heap.size + 1, 0, none⟩ = some (.int .i64 l.o) := by rw [(bcell hb1).1 _ _ (by simp <;> omega), old_box (by simp <;> omega)]; first | (rw [new_at (by simp)]; rfl) | simp
  have c1_2 : v1.cell? ⟨w.heap.size + 1, 1, none⟩ = some (.int .i64 l.s) := by rw [(bcell hb1).1 _ _ (by simp <;> omega), old_box (by simp <;> omega)]; first | (rw [new_at (by simp)]; rfl) | simp
  have c1_3 : v1.cell? ⟨w.heap.size + 1, 2, none⟩ = some (.int .i64 l.g) := by rw [(bcell hb1).1 _ _ (by simp <;> omega), old_box (by simp <;> omega)]; first | (rw [new_at (by simp)]; rfl) | simp
  have c1_4 : v1.cell? ⟨w.heap.size + 1, 3, none⟩ = some (.slice u1 l.K.length e1) := by rw [(bcell hb1).1 _ _ (by simp <;> omega), old_box (by simp <;> omega)]; first | (rw [new_at (by simp)]; rfl) | simp
  have c1_5 : v1.cell? ⟨w.heap.size + 1, 4, none⟩ = some (.slice u2 l.T.length e2) := by rw [(bcell hb1).1 _ _ (by simp <;> omega), old_box (by simp <;> omega)]; first | (rw [new_at (by simp)]; rfl) | simp
  have c1_6 : v1.cell? ⟨w.heap.size + 1 + 1, 0, none⟩ = some (.slice none 0 0) := by rw [(bcell hb1).1 _ _ (by simp)]; first | (rw [new_at (by simp)]; rfl) | simp
  have g1_0 : v1.frozen? ⟨w.heap.size + 1 + 1, 0, none⟩ = false := by rw [(bcell hb1).2 _ _ (by simp), new_frz (by simp)]
  have B1 : Hid (Below w.heap.size w v1) := st1
  have R1_0 : Hid (DRow v1 (lo) (hi) (.slice a n c)  D) := R0.out.below st1 (by omega)
  have R1_1 : Hid (LRow v1 (lo2) (hi2) (.slice u1 l.K.length e1) (.slice u2 l.T.length e2) l.K.length l.T.length (flat2 l.K) (flat l.T)) := L0.out.below st1 (by omega)
  have d1_0 : w.heap.size < v1.heap.size := by omega
  have e1_0 : w.heap.size ≠ v1.heap.size := by omega
  have d1_1 : w.heap.size + 1 < v1.heap.size := by omega
  have e1_1 : w.heap.size + 1 ≠ v1.heap.size := by omega
  have d1_2 : w.heap.size + 1 + 1 < v1.heap.size := by omega
  have e1_2 : w.heap.size + 1 + 1 ≠ v1.heap.size := by omega
  clear st1 R0 L0 hb1
  go_wp2_with fail
  go_at_call 48
  refine (slok_any l.o l.s l.g lo2 hi2 lo2 hi2 l.K.length l.T.length _ _ l.K l.T _ rfl rfl R1_1.out.fst R1_1.out.snd (by first | omega | (simp; omega) | simp) (by first | omega | (simp; omega) | simp)).mono ?_
  rw [HL.out]
  rintro e v2 ⟨rfl, hb2⟩
  have sz2 : v1.heap.size <= v2.heap.size := hb2.size
  have st2 : Below v1.heap.size v1 v2 := hb2
  have c2_0 : v2.cell? ⟨w.heap.size, 0, none⟩ = some (.slice a n c) := by rw [(bcell st2).1 _ _ (by omega)]; exact c1_0
  have c2_1 : v2.cell? ⟨w.heap.size + 1, 0, none⟩ = some (.int .i64 l.o) := by rw [(bcell st2).1 _ _ (by omega)]; exact c1_1
  have c2_2 : v2.cell? ⟨w.heap.size + 1, 1, none⟩ = some (.int .i64 l.s) := by rw [(bcell st2).1 _ _ (by omega)]; exact c1_2
  have c2_3 : v2.cell? ⟨w.heap.size + 1, 2, none⟩ = some (.int .i64 l.g) := by rw [(bcell st2).1 _ _ (by omega)]; exact c1_3
  have c2_4 : v2.cell? ⟨w.heap.size + 1, 3, none⟩ = some (.slice u1 l.K.length e1) := by rw [(bcell st2).1 _ _ (by omega)]; exact c1_4
  have c2_5 : v2.cell? ⟨w.heap.size + 1, 4, none⟩ = some (.slice u2 l.T.length e2) := by rw [(bcell st2).1 _ _ (by omega)]; exact c1_5
  have c2_6 : v2.cell? ⟨w.heap.size + 1 + 1, 0, none⟩ = some (.slice none 0 0) := by rw [(bcell st2).1 _ _ (by omega)]; exact c1_6
  have g2_0 : v2.frozen? ⟨w.heap.size + 1 + 1, 0, none⟩ = false := by rw [(bcell st2).2 _ _ (by omega)]; exact g1_0
  have B2 : Hid (Below w.heap.size w v2) := B1.out.trans (st2.mono (by omega))
  have R2_0 : Hid (DRow v2 (lo) (hi) (.slice a n c)  D) := R1_0.out.below st2 (by omega)
  have R2_1 : Hid (LRow v2 (lo2) (hi2) (.slice u1 l.K.length e1) (.slice u2 l.T.length e2) l.K.length l.T.length (flat2 l.K) (flat l.T)) := R1_1.out.below st2 (by omega)
  have d2_0 : w.heap.size < v2.heap.size := by omega
  have e2_0 : w.heap.size ≠ v2.heap.size := by omega
  have d2_1 : w.heap.size + 1 < v2.heap.size := by omega
  have e2_1 : w.heap.size + 1 ≠ v2.heap.size := by omega
  have d2_2 : w.heap.size + 1 + 1 < v2.heap.size := by omega
  have e2_2 : w.heap.size + 1 + 1 ≠ v2.heap.size := by omega
  clear d1_0 e1_0 d1_1 e1_1 d1_2 e1_2 c1_0 c1_1 c1_2 c1_3 c1_4 c1_5 c1_6 g1_0 B1 st2 R1_0 R1_1 hb2
  go_wp2_with fail
  go_at_call 22
  refine (sfind_is D l.o lo hi _ _ R2_0.out (by first | omega | (simp; omega) | simp) HQ.out HB.out).mono ?_
  rintro e v3 ⟨ru, rv, rfl, hr1, hb3⟩
  have sz3 : v2.heap.size <= v3.heap.size := hb3.size
  have st3 : Below v2.heap.size v2 v3 := hb3
  have c3_0 : v3.cell? ⟨w.heap.size, 0, none⟩ = some (.slice a n c) := by rw [(bcell st3).1 _ _ (by omega)]; exact c2_0
  have c3_1 : v3.cell? ⟨w.heap.size + 1, 0, none⟩ = some (.int .i64 l.o) := by rw [(bcell st3).1 _ _ (by omega)]; exact c2_1
  have c3_2 : v3.cell? ⟨w.heap.size + 1, 1, none⟩ = some (.int .i64 l.s) := by rw [(bcell st3).1 _ _ (by omega)]; exact c2_2
  have c3_3 : v3.cell? ⟨w.heap.size + 1, 2, none⟩ = some (.int .i64 l.g) := by rw [(bcell st3).1 _ _ (by omega)]; exact c2_3
  have c3_4 : v3.cell? ⟨w.heap.size + 1, 3, none⟩ = some (.slice u1 l.K.length e1) := by rw [(bcell st3).1 _ _ (by omega)]; exact c2_4
  have c3_5 : v3.cell? ⟨w.heap.size + 1, 4, none⟩ = some (.slice u2 l.T.length e2) := by rw [(bcell st3).1 _ _ (by omega)]; exact c2_5
  have c3_6 : v3.cell? ⟨w.heap.size + 1 + 1, 0, none⟩ = some (.slice none 0 0) := by rw [(bcell st3).1 _ _ (by omega)]; exact c2_6
  have g3_0 : v3.frozen? ⟨w.heap.size + 1 + 1, 0, none⟩ = false := by rw [(bcell st3).2 _ _ (by omega)]; exact g2_0
  have B3 : Hid (Below w.heap.size w v3) := B2.out.trans (st3.mono (by omega))
  have R3_0 : Hid (DRow v3 (lo) (hi) (.slice a n c)  D) := R2_0.out.below st3 (by omega)
  have R3_1 : Hid (LRow v3 (lo2) (hi2) (.slice u1 l.K.length e1) (.slice u2 l.T.length e2) l.K.length l.T.length (flat2 l.K) (flat l.T)) := R2_1.out.below st3 (by omega)
  have R3_2 : Hid (LRow v3 (v2.heap.size) (v3.heap.size) ru rv old.K.length old.T.length (flat2 old.K) (flat old.T)) := Lib.hid hr1
  have d3_0 : w.heap.size < v3.heap.size := by omega
  have e3_0 : w.heap.size ≠ v3.heap.size := by omega
  have d3_1 : w.heap.size + 1 < v3.heap.size := by omega
  have e3_1 : w.heap.size + 1 ≠ v3.heap.size := by omega
  have d3_2 : w.heap.size + 1 + 1 < v3.heap.size := by omega
  have e3_2 : w.heap.size + 1 + 1 ≠ v3.heap.size := by omega
  clear d2_0 e2_0 d2_1 e2_1 d2_2 e2_2 c2_0 c2_1 c2_2 c2_3 c2_4 c2_5 c2_6 g2_0 B2 st3 R2_0 R2_1 hb3
  obtain ⟨oa, oc, pa, pc, rfl, rfl⟩ := R3_2.out.slice
  clear hr1
  go_wp2_with fail
  go_at_call 70
  refine (snew_any l.o l.s l.g old.o old.s old.g lo2 hi2 l.K.length l.T.length _ _ old.K.length old.T.length _ _ _ _ l.K l.T old.K old.T _ rfl rfl rfl rfl (R3_1.out.below (B := v3.heap.size) (by go_grown) (by omega)) (R3_2.out.below (B := v3.heap.size) (by go_grown) (by omega)) (by first | omega | (simp; omega) | simp) (by first | omega | (simp; omega) | simp)).mono ?_
  rw [HW.out]
  rintro e v4 ⟨rfl, hb4⟩
  have sz4 : v3.heap.size + 1 <= v4.heap.size := by have hh := hb4.size; simp at hh; omega
  have st4 : Below v3.heap.size v3 v4 := Below.trans (by go_grown) (hb4.mono (by simp))
  have c4_0 : v4.cell? ⟨w.heap.size, 0, none⟩ = some (.slice a n c) := by rw [(bcell st4).1 _ _ (by omega)]; exact c3_0
  have c4_1 : v4.cell? ⟨w.heap.size + 1, 0, none⟩ = some (.int .i64 l.o) := by rw [(bcell st4).1 _ _ (by omega)]; exact c3_1
  have c4_2 : v4.cell? ⟨w.heap.size + 1, 1, none⟩ = some (.int .i64 l.s) := by rw [(bcell st4).1 _ _ (by omega)]; exact c3_2
  have c4_3 : v4.cell? ⟨w.heap.size + 1, 2, none⟩ = some (.int .i64 l.g) := by rw [(bcell st4).1 _ _ (by omega)]; exact c3_3
  have c4_4 : v4.cell? ⟨w.heap.size + 1, 3, none⟩ = some (.slice u1 l.K.length e1) := by rw [(bcell st4).1 _ _ (by omega)]; exact c3_4
  have c4_5 : v4.cell? ⟨w.heap.size + 1, 4, none⟩ = some (.slice u2 l.T.length e2) := by rw [(bcell st4).1 _ _ (by omega)]; exact c3_5
  have c4_6 : v4.cell? ⟨w.heap.size + 1 + 1, 0, none⟩ = some (.slice none 0 0) := by rw [(bcell st4).1 _ _ (by omega)]; exact c3_6
  have c4_7 : v4.cell? ⟨v3.heap.size, 0, none⟩ = some (.int .i64 old.o) := by rw [(bcell hb4).1 _ _ (by simp)]; first | (rw [new_at (by simp)]; rfl) | simp
  have c4_8 : v4.cell? ⟨v3.heap.size, 1, none⟩ = some (.int .i64 old.s) := by rw [(bcell hb4).1 _ _ (by simp)]; first | (rw [new_at (by simp)]; rfl) | simp
  have c4_9 : v4.cell? ⟨v3.heap.size, 2, none⟩ = some (.int .i64 old.g) := by rw [(bcell hb4).1 _ _ (by simp)]; first | (rw [new_at (by simp)]; rfl) | simp
  have c4_10 : v4.cell? ⟨v3.heap.size, 3, none⟩ = some (.slice oa old.K.length oc) := by rw [(bcell hb4).1 _ _ (by simp)]; first | (rw [new_at (by simp)]; rfl) | simp
  have c4_11 : v4.cell? ⟨v3.heap.size, 4, none⟩ = some (.slice pa old.T.length pc) := by rw [(bcell hb4).1 _ _ (by simp)]; first | (rw [new_at (by simp)]; rfl) | simp
  have g4_0 : v4.frozen? ⟨w.heap.size + 1 + 1, 0, none⟩ = false := by rw [(bcell st4).2 _ _ (by omega)]; exact g3_0
  have B4 : Hid (Below w.heap.size w v4) := B3.out.trans (st4.mono (by omega))
  have R4_0 : Hid (DRow v4 (lo) (hi) (.slice a n c)  D) := R3_0.out.below st4 (by omega)
  have R4_1 : Hid (LRow v4 (lo2) (hi2) (.slice u1 l.K.length e1) (.slice u2 l.T.length e2) l.K.length l.T.length (flat2 l.K) (flat l.T)) := R3_1.out.below st4 (by omega)
  have R4_2 : Hid (LRow v4 (v2.heap.size) (v3.heap.size) (.slice oa old.K.length oc) (.slice pa old.T.length pc) old.K.length old.T.length (flat2 old.K) (flat old.T)) := R3_2.out.below st4 (by omega)
  have d4_0 : w.heap.size < v4.heap.size := by omega
  have e4_0 : w.heap.size ≠ v4.heap.size := by omega
  have d4_1 : w.heap.size + 1 < v4.heap.size := by omega
  have e4_1 : w.heap.size + 1 ≠ v4.heap.size := by omega
  have d4_2 : w.heap.size + 1 + 1 < v4.heap.size := by omega
  have e4_2 : w.heap.size + 1 + 1 ≠ v4.heap.size := by omega
  have d4_3 : v3.heap.size < v4.heap.size := by omega
  have e4_3 : v3.heap.size ≠ v4.heap.size := by omega
  clear d3_0 e3_0 d3_1 e3_1 d3_2 e3_2 c3_0 c3_1 c3_2 c3_3 c3_4 c3_5 c3_6 g3_0 B3 st4 R3_0 R3_1 R3_2 hb4
  go_wp2_with fail
  obtain ⟨q5, hq5⟩ : ∃ q, q = (v4.alloc (.cells #[.slice none 0 0] 26)) := ⟨_, rfl⟩
  have hb5 : Below v4.heap.size v4 q5 := by rw [hq5]; go_grown
  have sz5 : v4.heap.size + 1 <= q5.heap.size := by rw [hq5]; simp
  have c5_0 : q5.cell? ⟨w.heap.size, 0, none⟩ = some (.slice a n c) := by rw [(bcell hb5).1 _ _ (by omega)]; exact c4_0
  have c5_1 : q5.cell? ⟨w.heap.size + 1, 0, none⟩ = some (.int .i64 l.o) := by rw [(bcell hb5).1 _ _ (by omega)]; exact c4_1
  have c5_2 : q5.cell? ⟨w.heap.size + 1, 1, none⟩ = some (.int .i64 l.s) := by rw [(bcell hb5).1 _ _ (by omega)]; exact c4_2
  have c5_3 : q5.cell? ⟨w.heap.size + 1, 2, none⟩ = some (.int .i64 l.g) := by rw [(bcell hb5).1 _ _ (by omega)]; exact c4_3
  have c5_4 : q5.cell? ⟨w.heap.size + 1, 3, none⟩ = some (.slice u1 l.K.length e1) := by rw [(bcell hb5).1 _ _ (by omega)]; exact c4_4
  have c5_5 : q5.cell? ⟨w.heap.size + 1, 4, none⟩ = some (.slice u2 l.T.length e2) := by rw [(bcell hb5).1 _ _ (by omega)]; exact c4_5
  have c5_6 : q5.cell? ⟨w.heap.size + 1 + 1, 0, none⟩ = some (.slice none 0 0) := by rw [(bcell hb5).1 _ _ (by omega)]; exact c4_6
  have c5_7 : q5.cell? ⟨v3.heap.size, 0, none⟩ = some (.int .i64 old.o) := by rw [(bcell hb5).1 _ _ (by omega)]; exact c4_7
  have c5_8 : q5.cell? ⟨v3.heap.size, 1, none⟩ = some (.int .i64 old.s) := by rw [(bcell hb5).1 _ _ (by omega)]; exact c4_8
  have c5_9 : q5.cell? ⟨v3.heap.size, 2, none⟩ = some (.int .i64 old.g) := by rw [(bcell hb5).1 _ _ (by omega)]; exact c4_9
  have c5_10 : q5.cell? ⟨v3.heap.size, 3, none⟩ = some (.slice oa old.K.length oc) := by rw [(bcell hb5).1 _ _ (by omega)]; exact c4_10
  have c5_11 : q5.cell? ⟨v3.heap.size, 4, none⟩ = some (.slice pa old.T.length pc) := by rw [(bcell hb5).1 _ _ (by omega)]; exact c4_11
  have c5_12 : q5.cell? ⟨v4.heap.size, 0, none⟩ = some (.slice none 0 0) := by rw [hq5, new_at (by simp)]; rfl
  have g5_0 : q5.frozen? ⟨w.heap.size + 1 + 1, 0, none⟩ = false := by rw [(bcell hb5).2 _ _ (by omega)]; exact g4_0
  have g5_1 : q5.frozen? ⟨v4.heap.size, 0, none⟩ = false := by rw [hq5, new_frz (by simp)]
  have B5 : Hid (Below w.heap.size w q5) := Lib.hid (B4.out.trans (hb5.mono (by omega)))
  have R5_0 : Hid (DRow q5 (lo) (hi) (.slice a n c)  D) := Lib.hid (R4_0.out.below hb5 (by omega))
  have R5_1 : Hid (LRow q5 (lo2) (hi2) (.slice u1 l.K.length e1) (.slice u2 l.T.length e2) l.K.length l.T.length (flat2 l.K) (flat l.T)) := Lib.hid (R4_1.out.below hb5 (by omega))
  have R5_2 : Hid (LRow q5 (v2.heap.size) (v3.heap.size) (.slice oa old.K.length oc) (.slice pa old.T.length pc) old.K.length old.T.length (flat2 old.K) (flat old.T)) := Lib.hid (R4_2.out.below hb5 (by omega))
  rw [<- hq5]
  have d5_0 : w.heap.size < q5.heap.size := by omega
  have e5_0 : w.heap.size ≠ q5.heap.size := by omega
  have d5_1 : w.heap.size + 1 < q5.heap.size := by omega
  have e5_1 : w.heap.size + 1 ≠ q5.heap.size := by omega
  have d5_2 : w.heap.size + 1 + 1 < q5.heap.size := by omega
  have e5_2 : w.heap.size + 1 + 1 ≠ q5.heap.size := by omega
  have d5_3 : v3.heap.size < q5.heap.size := by omega
  have e5_3 : v3.heap.size ≠ q5.heap.size := by omega
  have d5_4 : v4.heap.size < q5.heap.size := by omega
  have e5_4 : v4.heap.size ≠ q5.heap.size := by omega
  clear hq5 hb5 d4_0 e4_0 d4_1 e4_1 d4_2 e4_2 d4_3 e4_3 c4_0 c4_1 c4_2 c4_3 c4_4 c4_5 c4_6 c4_7 c4_8 c4_9 c4_10 c4_11 g4_0 B4 R4_0 R4_1 R4_2
  obtain ⟨X, hX⟩ : ∃ q, q = v4.heap.size := ⟨_, rfl⟩
  have HO0 : Hid (OutE q5 q5 X (.slice none 0 0) []) := Lib.hid (by rw [hX]; exact OutE.start (by omega) g5_1 c5_12)
  have hxw : w.heap.size + 1 + 1 < X := by omega
  have Hkd := Lib.hid c5_0
  have Hkl0 := Lib.hid c5_1
  have Hkl1 := Lib.hid c5_2
  have Hkl2 := Lib.hid c5_3
  have Hkl3 := Lib.hid c5_4
  have Hkl4 := Lib.hid c5_5
  have Hkr := Lib.hid c5_6
  have Hkf := Lib.hid g5_0
  have HQb := B5
  have hxq : X < q5.heap.size := by omega
  try rw [<- hX]
  have HHX := Lib.hid hX
  clear hX
  obtain ⟨q, hqq⟩ : ∃ z, z = q5 := ⟨_, rfl⟩
  rw [<- hqq] at HO0 HQb hxq Hkf Hkd Hkl0 Hkl1 Hkl2 Hkl3 Hkl4 Hkr ⊢
  clear hqq
  go_loopw [9, 10] (fun pb i wr => ∃ (k : Nat) (b : Bool) (rv : Value) (E : List Ent), k <= n /\ i = .int .i64 (k : Int) /\ pb = .bool b /\ Hid (b = (iloop l (D.take k)).2) /\ Hid (OutE q wr X rv E) /\ Hid (E.map (·.l) = (iloop l (D.take k)).1)) (fun _ i _ => n - (intOf i).toNat)
  case atStart => exact ⟨0, false, _, [], Nat.zero_le _, rfl, rfl, rfl, HO0, rfl⟩
  case round =>
    clear HO0 c5_0 c5_1 c5_2 c5_3 c5_4 c5_5 c5_6 c5_7 c5_8 c5_9 c5_10 c5_11 c5_12 g5_0 g5_1 d5_0 e5_0 d5_1 e5_1 d5_2 e5_2 d5_3 e5_3 d5_4 e5_4 R5_0 R5_1 R5_2
    obtain ⟨k, b, rv, E, hk, rfl, rfl, Hb, HO, HE⟩ := hrel
    have hel : E.length <= k + 1 := by
      have h1 := congrArg List.length HE.out
      have h2 := iloop_len l (D.take k)
      rw [List.length_map] at h1
      rw [List.length_take] at h2
      split at h2 <;> omega
    obtain ⟨en, hen⟩ : ∃ m, m = E.length := ⟨_, rfl⟩
    rw [<- hen] at hel
    have HELw : Hid (E.length = en) := Lib.hid hen.symm
    obtain ⟨xa, xc, hrv⟩ := own_slice HO.out.own
    rw [<- hen] at hrv
    subst hrv
    clear hen
    by_cases hlt : k < n
    · obtain ⟨p, hp⟩ : ∃ p, D[k]? = some p := ⟨_, List.getElem?_eq_getElem (by have := HN.out; omega)⟩
      obtain ⟨G, rfl, g1, g2, _, g4, _⟩ := HX.out.outer (by have := HN.out; omega)
      have hc := g4 k p hp
      obtain ⟨i1, i2, i3⟩ := HX.out.inner k p hp
      obtain ⟨x1, y1, x2, y2, e3, e4⟩ := i1.slice
      rw [e3, e4] at hc i1
      have HLC := Lib.hid hc
      have gw : G < w.heap.size := by omega
      obtain ⟨H0, hH0⟩ : ∃ q, q = (bs k).1 := ⟨_, rfl⟩
      obtain ⟨H1, hH1⟩ : ∃ q, q = (bs k).2 := ⟨_, rfl⟩
      rw [<- hH0, <- hH1] at i1
      have HPR := Lib.hid i1
      have zH : H1 <= w.heap.size := by omega
      have hbd := Ls.ok_bd (dokB_get HV.out hp).1
      have hp1 : p.K.length <= 1048576 := by omega
      have hp2 : p.T.length <= 1048576 := by omega
      have Hp := Lib.hid hp
      have hk0 : (0 : Int) <= (k : Int) := by omega
      have hk1 : (k : Int) < (n : Int) := by omega
      clear hc i1 i2 i3 e3 e4 hH0 hH1 hbd hp g1 g2 g4
      have hzwr : X < wr.heap.size := HO.out.size
      have hbwr : Below w.heap.size w wr := HQb.out.trans (HO.out.below.mono (by omega))
      have kdwr : wr.cell? ⟨w.heap.size, 0, none⟩ = some (.slice (some ⟨G, 0, none⟩) n c) := by rw [HO.out.below.cell (p := ⟨w.heap.size, 0, none⟩) (by show w.heap.size < X; omega)]; exact Hkd.out
      have kl0wr : wr.cell? ⟨w.heap.size + 1, 0, none⟩ = some (.int .i64 l.o) := by rw [HO.out.below.cell (p := ⟨w.heap.size + 1, 0, none⟩) (by show w.heap.size + 1 < X; omega)]; exact Hkl0.out
      have kl1wr : wr.cell? ⟨w.heap.size + 1, 1, none⟩ = some (.int .i64 l.s) := by rw [HO.out.below.cell (p := ⟨w.heap.size + 1, 1, none⟩) (by show w.heap.size + 1 < X; omega)]; exact Hkl1.out
      have kl2wr : wr.cell? ⟨w.heap.size + 1, 2, none⟩ = some (.int .i64 l.g) := by rw [HO.out.below.cell (p := ⟨w.heap.size + 1, 2, none⟩) (by show w.heap.size + 1 < X; omega)]; exact Hkl2.out
      have kl3wr : wr.cell? ⟨w.heap.size + 1, 3, none⟩ = some (.slice u1 l.K.length e1) := by rw [HO.out.below.cell (p := ⟨w.heap.size + 1, 3, none⟩) (by show w.heap.size + 1 < X; omega)]; exact Hkl3.out
      have kl4wr : wr.cell? ⟨w.heap.size + 1, 4, none⟩ = some (.slice u2 l.T.length e2) := by rw [HO.out.below.cell (p := ⟨w.heap.size + 1, 4, none⟩) (by show w.heap.size + 1 < X; omega)]; exact Hkl4.out
      have krwr : wr.cell? ⟨w.heap.size + 1 + 1, 0, none⟩ = some (.slice none 0 0) := by rw [HO.out.below.cell (p := ⟨w.heap.size + 1 + 1, 0, none⟩) (by show w.heap.size + 1 + 1 < X; omega)]; exact Hkr.out
      have kfwr : wr.frozen? ⟨w.heap.size + 1 + 1, 0, none⟩ = false := by rw [HO.out.below.frozen (p := ⟨w.heap.size + 1 + 1, 0, none⟩) (by show w.heap.size + 1 + 1 < X; omega)]; exact Hkf.out
      have kxwr : wr.cell? ⟨X, 0, none⟩ = some (.slice xa en xc) := HO.out.cell
      have w0wr : w.heap.size < wr.heap.size := by omega
      have w1wr : w.heap.size + 1 < wr.heap.size := by omega
      have w2wr : w.heap.size + 1 + 1 < wr.heap.size := by omega
      have RLwr : Hid (LRow wr lo2 hi2 (.slice u1 l.K.length e1) (.slice u2 l.T.length e2) l.K.length l.T.length (flat2 l.K) (flat l.T)) := Lib.hid (HLR.out.below hbwr hh2)
      have y1wr : hi2 <= wr.heap.size := by omega
      obtain ⟨p0wr, p1wr, p2wr, p3wr, p4wr⟩ := HLC.out.below hbwr gw
      have RPwr : Hid (LRow wr H0 H1 (.slice x1 p.K.length y1) (.slice x2 p.T.length y2) p.K.length p.T.length (flat2 p.K) (flat p.T)) := Lib.hid (HPR.out.below hbwr zH)
      have z1wr : H1 <= wr.heap.size := by omega
      have glwr : G < wr.heap.size := by omega
      cases b with
      | true =>
        have hbt := Hb.out.symm
        have Hbt := Lib.hid hbt
        clear hbt
        go_wp2_with fail
        refine wp_region_held_drew (S := (fun w' => w'.cell? ⟨w.heap.size, 0, none⟩ = some (.slice (some ⟨G, 0, none⟩) n c) /\ w'.cell? ⟨w.heap.size + 1, 0, none⟩ = some (.int .i64 l.o) /\ w'.cell? ⟨G, k * 5, none⟩ = some (.int .i64 p.o) /\ wr.heap.size <= w'.heap.size /\ Below wr.heap.size wr w')) (by kernel_rfl) ?_ (fun hHeld => ?_)
        · (first | assumption | exact rr3_start kdwr kl0wr p0wr | exact rr3_drew (rr3_start kdwr kl0wr p0wr) | exact rr3_drew (by assumption))
        refine step_read 0 57 rfl rfl (by kernel_rfl) (by kernel_rfl) (by kernel_rfl) (fun _ _ _ h => h) (by rfl) (v := ?_) (fun w hSw => ?_) (by assumption) ?_; rotate_left; (focus ((try dsimp only at hSw); go_simp; first | done | exact rfl)); simp only [List.set]
        refine step_read 1 58 rfl rfl (by kernel_rfl) (by kernel_rfl) (by kernel_rfl) (fun _ _ _ h => h) (by rfl) (v := ?_) (fun w hSw => ?_) (by assumption) ?_; rotate_left; (focus ((try dsimp only at hSw); go_simp; first | done | exact rfl)); simp only [List.set]
        refine step_read 2 59 rfl rfl (by kernel_rfl) (by kernel_rfl) (by kernel_rfl) (fun _ _ _ h => h) (by rfl) (v := ?_) (fun w hSw => ?_) (by assumption) ?_; rotate_left; (focus ((try dsimp only at hSw); go_simp; first | done | exact rfl)); simp only [List.set]
        refine step_skip 3 60 rfl rfl (by kernel_rfl) (by kernel_rfl) (by kernel_rfl) (fun _ _ _ h => h) (by rfl) (by assumption) ?_; simp only [List.set]
        refine step_skip 4 61 rfl rfl (by kernel_rfl) (by kernel_rfl) (by kernel_rfl) (fun _ _ _ h => h) (by rfl) (by assumption) ?_; simp only [List.set]
        refine step_skip 5 62 rfl rfl (by kernel_rfl) (by kernel_rfl) (by kernel_rfl) (fun _ _ _ h => h) (by rfl) (by assumption) ?_; simp only [List.set]
        refine step_skip 6 63 rfl rfl (by kernel_rfl) (by kernel_rfl) (by kernel_rfl) (fun _ _ _ h => h) (by rfl) (by assumption) ?_; simp only [List.set]
        refine step_skip 7 64 rfl rfl (by kernel_rfl) (by kernel_rfl) (by kernel_rfl) (fun _ _ _ h => h) (by rfl) (by assumption) ?_; simp only [List.set]
        refine step_skip 8 65 rfl rfl (by kernel_rfl) (by kernel_rfl) (by kernel_rfl) (fun _ _ _ h => h) (by rfl) (by assumption) ?_; simp only [List.set]
        refine step_skip 9 66 rfl rfl (by kernel_rfl) (by kernel_rfl) (by kernel_rfl) (fun _ _ _ h => h) (by rfl) (by assumption) ?_; simp only [List.set]
        refine step_skip 10 67 rfl rfl (by kernel_rfl) (by kernel_rfl) (by kernel_rfl) (fun _ _ _ h => h) (by rfl) (by assumption) ?_; simp only [List.set]
        refine step_skip 11 68 rfl rfl (by kernel_rfl) (by kernel_rfl) (by kernel_rfl) (fun _ _ _ h => h) (by rfl) (by assumption) ?_; simp only [List.set]
        refine step_read 12 69 rfl rfl (by kernel_rfl) (by kernel_rfl) (by kernel_rfl) (fun _ _ _ h => h) (by rfl) (v := ?_) (fun w hSw => ?_) (by assumption) ?_; rotate_left; (focus ((try dsimp only at hSw); go_simp; first | done | exact rfl)); simp only [List.set]
        refine wpAnyH_done (by kernel_rfl) ?_ _
        have HOwx : Hid (OutE q (wr.drew) X (.slice xa en xc) E) := Lib.hid (HO.out.drew)
        clear hzwr hbwr kdwr kl0wr kl1wr kl2wr kl3wr kl4wr krwr kfwr kxwr w0wr w1wr w2wr RLwr y1wr p0wr p1wr p2wr p3wr p4wr RPwr z1wr glwr
        generalize wr.drew = wx at *
        have hzwx : X < wx.heap.size := HOwx.out.size
        have hbwx : Below w.heap.size w wx := HQb.out.trans (HOwx.out.below.mono (by omega))
        have kdwx : wx.cell? ⟨w.heap.size, 0, none⟩ = some (.slice (some ⟨G, 0, none⟩) n c) := by rw [HOwx.out.below.cell (p := ⟨w.heap.size, 0, none⟩) (by show w.heap.size < X; omega)]; exact Hkd.out
        have kl0wx : wx.cell? ⟨w.heap.size + 1, 0, none⟩ = some (.int .i64 l.o) := by rw [HOwx.out.below.cell (p := ⟨w.heap.size + 1, 0, none⟩) (by show w.heap.size + 1 < X; omega)]; exact Hkl0.out
        have kl1wx : wx.cell? ⟨w.heap.size + 1, 1, none⟩ = some (.int .i64 l.s) := by rw [HOwx.out.below.cell (p := ⟨w.heap.size + 1, 1, none⟩) (by show w.heap.size + 1 < X; omega)]; exact Hkl1.out
        have kl2wx : wx.cell? ⟨w.heap.size + 1, 2, none⟩ = some (.int .i64 l.g) := by rw [HOwx.out.below.cell (p := ⟨w.heap.size + 1, 2, none⟩) (by show w.heap.size + 1 < X; omega)]; exact Hkl2.out
        have kl3wx : wx.cell? ⟨w.heap.size + 1, 3, none⟩ = some (.slice u1 l.K.length e1) := by rw [HOwx.out.below.cell (p := ⟨w.heap.size + 1, 3, none⟩) (by show w.heap.size + 1 < X; omega)]; exact Hkl3.out
        have kl4wx : wx.cell? ⟨w.heap.size + 1, 4, none⟩ = some (.slice u2 l.T.length e2) := by rw [HOwx.out.below.cell (p := ⟨w.heap.size + 1, 4, none⟩) (by show w.heap.size + 1 < X; omega)]; exact Hkl4.out
        have krwx : wx.cell? ⟨w.heap.size + 1 + 1, 0, none⟩ = some (.slice none 0 0) := by rw [HOwx.out.below.cell (p := ⟨w.heap.size + 1 + 1, 0, none⟩) (by show w.heap.size + 1 + 1 < X; omega)]; exact Hkr.out
        have kfwx : wx.frozen? ⟨w.heap.size + 1 + 1, 0, none⟩ = false := by rw [HOwx.out.below.frozen (p := ⟨w.heap.size + 1 + 1, 0, none⟩) (by show w.heap.size + 1 + 1 < X; omega)]; exact Hkf.out
        have kxwx : wx.cell? ⟨X, 0, none⟩ = some (.slice xa en xc) := HOwx.out.cell
        have w0wx : w.heap.size < wx.heap.size := by omega
        have w1wx : w.heap.size + 1 < wx.heap.size := by omega
        have w2wx : w.heap.size + 1 + 1 < wx.heap.size := by omega
        have RLwx : Hid (LRow wx lo2 hi2 (.slice u1 l.K.length e1) (.slice u2 l.T.length e2) l.K.length l.T.length (flat2 l.K) (flat l.T)) := Lib.hid (HLR.out.below hbwx hh2)
        have y1wx : hi2 <= wx.heap.size := by omega
        obtain ⟨p0wx, p1wx, p2wx, p3wx, p4wx⟩ := HLC.out.below hbwx gw
        have RPwx : Hid (LRow wx H0 H1 (.slice x1 p.K.length y1) (.slice x2 p.T.length y2) p.K.length p.T.length (flat2 p.K) (flat p.T)) := Lib.hid (HPR.out.below hbwx zH)
        have z1wx : H1 <= wx.heap.size := by omega
        have glwx : G < wx.heap.size := by omega
        by_cases ho : p.o = l.o
        · have hob : (p.o == l.o) = true := by simp [ho]
          have hob2 : (p.o != l.o) = false := by simp [ho]
          have HH := Lib.hid (iloop_i Hp.out (.inl Hbt.out) ho)
          clear ho
          go_wp2_with fail
          go_quiet (fail)
          have HOw7 : Hid (OutE q (wx.drewN nq) X (.slice xa en xc) E) := Lib.hid (HOwx.out.drewN nq)
          clear hzwx hbwx kdwx kl0wx kl1wx kl2wx kl3wx kl4wx krwx kfwx kxwx w0wx w1wx w2wx RLwx y1wx p0wx p1wx p2wx p3wx p4wx RPwx z1wx glwx
          generalize wx.drewN nq = w7 at *
          have hzw7 : X < w7.heap.size := HOw7.out.size
          have hbw7 : Below w.heap.size w w7 := HQb.out.trans (HOw7.out.below.mono (by omega))
          have kdw7 : w7.cell? ⟨w.heap.size, 0, none⟩ = some (.slice (some ⟨G, 0, none⟩) n c) := by rw [HOw7.out.below.cell (p := ⟨w.heap.size, 0, none⟩) (by show w.heap.size < X; omega)]; exact Hkd.out
          have kl0w7 : w7.cell? ⟨w.heap.size + 1, 0, none⟩ = some (.int .i64 l.o) := by rw [HOw7.out.below.cell (p := ⟨w.heap.size + 1, 0, none⟩) (by show w.heap.size + 1 < X; omega)]; exact Hkl0.out
          have kl1w7 : w7.cell? ⟨w.heap.size + 1, 1, none⟩ = some (.int .i64 l.s) := by rw [HOw7.out.below.cell (p := ⟨w.heap.size + 1, 1, none⟩) (by show w.heap.size + 1 < X; omega)]; exact Hkl1.out
          have kl2w7 : w7.cell? ⟨w.heap.size + 1, 2, none⟩ = some (.int .i64 l.g) := by rw [HOw7.out.below.cell (p := ⟨w.heap.size + 1, 2, none⟩) (by show w.heap.size + 1 < X; omega)]; exact Hkl2.out
          have kl3w7 : w7.cell? ⟨w.heap.size + 1, 3, none⟩ = some (.slice u1 l.K.length e1) := by rw [HOw7.out.below.cell (p := ⟨w.heap.size + 1, 3, none⟩) (by show w.heap.size + 1 < X; omega)]; exact Hkl3.out
          have kl4w7 : w7.cell? ⟨w.heap.size + 1, 4, none⟩ = some (.slice u2 l.T.length e2) := by rw [HOw7.out.below.cell (p := ⟨w.heap.size + 1, 4, none⟩) (by show w.heap.size + 1 < X; omega)]; exact Hkl4.out
          have krw7 : w7.cell? ⟨w.heap.size + 1 + 1, 0, none⟩ = some (.slice none 0 0) := by rw [HOw7.out.below.cell (p := ⟨w.heap.size + 1 + 1, 0, none⟩) (by show w.heap.size + 1 + 1 < X; omega)]; exact Hkr.out
          have kfw7 : w7.frozen? ⟨w.heap.size + 1 + 1, 0, none⟩ = false := by rw [HOw7.out.below.frozen (p := ⟨w.heap.size + 1 + 1, 0, none⟩) (by show w.heap.size + 1 + 1 < X; omega)]; exact Hkf.out
          have kxw7 : w7.cell? ⟨X, 0, none⟩ = some (.slice xa en xc) := HOw7.out.cell
          have w0w7 : w.heap.size < w7.heap.size := by omega
          have w1w7 : w.heap.size + 1 < w7.heap.size := by omega
          have w2w7 : w.heap.size + 1 + 1 < w7.heap.size := by omega
          have RLw7 : Hid (LRow w7 lo2 hi2 (.slice u1 l.K.length e1) (.slice u2 l.T.length e2) l.K.length l.T.length (flat2 l.K) (flat l.T)) := Lib.hid (HLR.out.below hbw7 hh2)
          have y1w7 : hi2 <= w7.heap.size := by omega
          obtain ⟨p0w7, p1w7, p2w7, p3w7, p4w7⟩ := HLC.out.below hbw7 gw
          have RPw7 : Hid (LRow w7 H0 H1 (.slice x1 p.K.length y1) (.slice x2 p.T.length y2) p.K.length p.T.length (flat2 p.K) (flat p.T)) := Lib.hid (HPR.out.below hbw7 zH)
          have z1w7 : H1 <= w7.heap.size := by omega
          have glw7 : G < w7.heap.size := by omega
          have HB9 : Hid (true = (iloop l (D.take (k + 1))).2) := Lib.hid (by rw [HH.out.2, Hbt.out])
          have HM9 : Hid (E.map (·.l) = (iloop l (D.take (k + 1))).1) := Lib.hid (by rw [HH.out.1, HE.out])
          go_wp2_with fail
          go_roundw
          case rel => exact ⟨k + 1, true, _, _, by omega, by go_num, rfl, HB9, HOw7, HM9⟩
          case measure => simp [intOf]; omega
        · have hob : (p.o == l.o) = false := by simp [ho]
          have hob2 : (p.o != l.o) = true := by simp [ho]
          have HH := Lib.hid (iloop_ii Hp.out (.inl Hbt.out) ho)
          clear ho
          go_wp2_with fail
          go_quiet (fail)
          have HOw7 : Hid (OutE q (wx.drewN nq) X (.slice xa en xc) E) := Lib.hid (HOwx.out.drewN nq)
          clear hzwx hbwx kdwx kl0wx kl1wx kl2wx kl3wx kl4wx krwx kfwx kxwx w0wx w1wx w2wx RLwx y1wx p0wx p1wx p2wx p3wx p4wx RPwx z1wx glwx
          generalize wx.drewN nq = w7 at *
          have hzw7 : X < w7.heap.size := HOw7.out.size
          have hbw7 : Below w.heap.size w w7 := HQb.out.trans (HOw7.out.below.mono (by omega))
          have kdw7 : w7.cell? ⟨w.heap.size, 0, none⟩ = some (.slice (some ⟨G, 0, none⟩) n c) := by rw [HOw7.out.below.cell (p := ⟨w.heap.size, 0, none⟩) (by show w.heap.size < X; omega)]; exact Hkd.out
          have kl0w7 : w7.cell? ⟨w.heap.size + 1, 0, none⟩ = some (.int .i64 l.o) := by rw [HOw7.out.below.cell (p := ⟨w.heap.size + 1, 0, none⟩) (by show w.heap.size + 1 < X; omega)]; exact Hkl0.out
          have kl1w7 : w7.cell? ⟨w.heap.size + 1, 1, none⟩ = some (.int .i64 l.s) := by rw [HOw7.out.below.cell (p := ⟨w.heap.size + 1, 1, none⟩) (by show w.heap.size + 1 < X; omega)]; exact Hkl1.out
          have kl2w7 : w7.cell? ⟨w.heap.size + 1, 2, none⟩ = some (.int .i64 l.g) := by rw [HOw7.out.below.cell (p := ⟨w.heap.size + 1, 2, none⟩) (by show w.heap.size + 1 < X; omega)]; exact Hkl2.out
          have kl3w7 : w7.cell? ⟨w.heap.size + 1, 3, none⟩ = some (.slice u1 l.K.length e1) := by rw [HOw7.out.below.cell (p := ⟨w.heap.size + 1, 3, none⟩) (by show w.heap.size + 1 < X; omega)]; exact Hkl3.out
          have kl4w7 : w7.cell? ⟨w.heap.size + 1, 4, none⟩ = some (.slice u2 l.T.length e2) := by rw [HOw7.out.below.cell (p := ⟨w.heap.size + 1, 4, none⟩) (by show w.heap.size + 1 < X; omega)]; exact Hkl4.out
          have krw7 : w7.cell? ⟨w.heap.size + 1 + 1, 0, none⟩ = some (.slice none 0 0) := by rw [HOw7.out.below.cell (p := ⟨w.heap.size + 1 + 1, 0, none⟩) (by show w.heap.size + 1 + 1 < X; omega)]; exact Hkr.out
          have kfw7 : w7.frozen? ⟨w.heap.size + 1 + 1, 0, none⟩ = false := by rw [HOw7.out.below.frozen (p := ⟨w.heap.size + 1 + 1, 0, none⟩) (by show w.heap.size + 1 + 1 < X; omega)]; exact Hkf.out
          have kxw7 : w7.cell? ⟨X, 0, none⟩ = some (.slice xa en xc) := HOw7.out.cell
          have w0w7 : w.heap.size < w7.heap.size := by omega
          have w1w7 : w.heap.size + 1 < w7.heap.size := by omega
          have w2w7 : w.heap.size + 1 + 1 < w7.heap.size := by omega
          have RLw7 : Hid (LRow w7 lo2 hi2 (.slice u1 l.K.length e1) (.slice u2 l.T.length e2) l.K.length l.T.length (flat2 l.K) (flat l.T)) := Lib.hid (HLR.out.below hbw7 hh2)
          have y1w7 : hi2 <= w7.heap.size := by omega
          obtain ⟨p0w7, p1w7, p2w7, p3w7, p4w7⟩ := HLC.out.below hbw7 gw
          have RPw7 : Hid (LRow w7 H0 H1 (.slice x1 p.K.length y1) (.slice x2 p.T.length y2) p.K.length p.T.length (flat2 p.K) (flat p.T)) := Lib.hid (HPR.out.below hbw7 zH)
          have z1w7 : H1 <= w7.heap.size := by omega
          have glw7 : G < w7.heap.size := by omega
          go_wp2_with fail
          go_region_law (first
            | (refine step_append_lies _ rfl _ _ 24 rfl (X + 1) 33 iL (.agg #[.int .i64 0, .int .i64 0, .int .i64 0, .slice none 0 0, .slice none 0 0]) 5 72 Try.underlying24 IL.out.1 IL.out.2.1 IL.out.2.2.1 IL.out.2.2.2 rfl (by decide) (.slice xa en xc) en (ecells E) rfl (HW.out.alloc _) ⟨w3.heap.size, 0, none⟩ 1 1 [.int .i64 p.o, .int .i64 p.s, .int .i64 p.g, .slice ra p.K.length rc, .slice sa p.T.length sc] rfl rfl (fun j u hj => cell_five_new w3 _ _ _ _ _ 33 j u hj) (ecs_one _ _ _ _ _ _ _ _ _) (by decide) (by unfold maxLen; omega) (by omega) (by have := HY.out.size; simp; omega) _ rfl ?_; intro g4 cap4 w4 hown4 hgrow4 hat4 hlt4; have HF := HY.out.app (e := ⟨p, .slice ra p.K.length rc, .slice sa p.T.length sc, w7.heap.size, w3.heap.size⟩) HR3.out (by have := HOw7.out.size; exact this) (Nat.le_refl _) (fun e' he' => (HOw7.out.row e' he').2.2) (fun k hk => (HOw7.out.lt hk).2) hgrow4 (by rw [HELw.out]) hown4 (by simpa using hat4); obtain ⟨⟨u4, c4⟩, f4, l4, l5, HO4⟩ := HF; have HO5 := Lib.hid HO4; clear hown4 hgrow4 hat4 hlt4 HO4)
            | (go_simp; go_at_call 58; refine (scopy_any p.o p.s p.g H0 H1 _ _ _ _ p.K p.T _ rfl rfl RPw7.out.drew z1w7 hp1 hp2).mono ?_; rintro e w3 ⟨ru, rv, rfl, hr3, hb3'⟩; have hb3 := undrew hb3'; clear hb3'; have HY : Hid (OutE q w3 X (.slice xa en xc) E) := Lib.hid (HOw7.out.grow hb3); have hz3 := hb3.size; have HW : Hid (w3.ownsRow (X + 1) 33 5 (.slice xa en xc) en (ecells E)) := Lib.hid (by have h := HY.out.own; rw [HELw.out] at h; exact h); obtain ⟨ra, rc, sa, sc, rfl, rfl⟩ := hr3.slice; have HR3 := Lib.hid hr3; have cy := HY.out.cell; have hy := HY.out.size; clear hb3 hr3))
          all_goals
            obtain ⟨Ew8, hEw8⟩ : ∃ q, q = E ++ [(⟨p, .slice ra p.K.length rc, .slice sa p.T.length sc, w7.heap.size, w3.heap.size⟩ : Ent)] := ⟨_, rfl⟩
            rw [<- hEw8] at HO5
            have HELw8 : Hid (Ew8.length = en + 1) := Lib.hid (by rw [hEw8, List.length_append, HELw.out]; rfl)
            have HMw8 : Hid (Ew8.map (·.l) = E.map (·.l) ++ [p]) := Lib.hid (by rw [hEw8, List.map_append]; rfl)
            obtain ⟨xa1, hxa⟩ : ∃ q, q = (some (⟨g4, 0, none⟩ : Addr)) := ⟨_, rfl⟩
            rw [<- hxa] at HO5
            try rw [<- hxa]
            have HOw8 := HO5
            clear HY HW HR3 hz3 cy hy c4 f4 l4 l5 hEw8 hxa HO5 hzw7 hbw7 kdw7 kl0w7 kl1w7 kl2w7 kl3w7 kl4w7 krw7 kfw7 kxw7 w0w7 w1w7 w2w7 RLw7 y1w7 p0w7 p1w7 p2w7 p3w7 p4w7 RPw7 z1w7 glw7
            generalize w4.setCell ⟨X, 0, none⟩ (.slice xa1 (en + 1) cap4) = w8 at *
            obtain ⟨xc1, hxc⟩ : ∃ q, q = cap4 := ⟨_, rfl⟩
            rw [<- hxc] at HOw8
            try rw [<- hxc]
            clear hxc
            have hzw8 : X < w8.heap.size := HOw8.out.size
            have hbw8 : Below w.heap.size w w8 := HQb.out.trans (HOw8.out.below.mono (by omega))
            have kdw8 : w8.cell? ⟨w.heap.size, 0, none⟩ = some (.slice (some ⟨G, 0, none⟩) n c) := by rw [HOw8.out.below.cell (p := ⟨w.heap.size, 0, none⟩) (by show w.heap.size < X; omega)]; exact Hkd.out
            have kl0w8 : w8.cell? ⟨w.heap.size + 1, 0, none⟩ = some (.int .i64 l.o) := by rw [HOw8.out.below.cell (p := ⟨w.heap.size + 1, 0, none⟩) (by show w.heap.size + 1 < X; omega)]; exact Hkl0.out
            have kl1w8 : w8.cell? ⟨w.heap.size + 1, 1, none⟩ = some (.int .i64 l.s) := by rw [HOw8.out.below.cell (p := ⟨w.heap.size + 1, 1, none⟩) (by show w.heap.size + 1 < X; omega)]; exact Hkl1.out
            have kl2w8 : w8.cell? ⟨w.heap.size + 1, 2, none⟩ = some (.int .i64 l.g) := by rw [HOw8.out.below.cell (p := ⟨w.heap.size + 1, 2, none⟩) (by show w.heap.size + 1 < X; omega)]; exact Hkl2.out
            have kl3w8 : w8.cell? ⟨w.heap.size + 1, 3, none⟩ = some (.slice u1 l.K.length e1) := by rw [HOw8.out.below.cell (p := ⟨w.heap.size + 1, 3, none⟩) (by show w.heap.size + 1 < X; omega)]; exact Hkl3.out
            have kl4w8 : w8.cell? ⟨w.heap.size + 1, 4, none⟩ = some (.slice u2 l.T.length e2) := by rw [HOw8.out.below.cell (p := ⟨w.heap.size + 1, 4, none⟩) (by show w.heap.size + 1 < X; omega)]; exact Hkl4.out
            have krw8 : w8.cell? ⟨w.heap.size + 1 + 1, 0, none⟩ = some (.slice none 0 0) := by rw [HOw8.out.below.cell (p := ⟨w.heap.size + 1 + 1, 0, none⟩) (by show w.heap.size + 1 + 1 < X; omega)]; exact Hkr.out
            have kfw8 : w8.frozen? ⟨w.heap.size + 1 + 1, 0, none⟩ = false := by rw [HOw8.out.below.frozen (p := ⟨w.heap.size + 1 + 1, 0, none⟩) (by show w.heap.size + 1 + 1 < X; omega)]; exact Hkf.out
            have kxw8 : w8.cell? ⟨X, 0, none⟩ = some (.slice xa1 (en + 1) xc1) := HOw8.out.cell
            have w0w8 : w.heap.size < w8.heap.size := by omega
            have w1w8 : w.heap.size + 1 < w8.heap.size := by omega
            have w2w8 : w.heap.size + 1 + 1 < w8.heap.size := by omega
            have RLw8 : Hid (LRow w8 lo2 hi2 (.slice u1 l.K.length e1) (.slice u2 l.T.length e2) l.K.length l.T.length (flat2 l.K) (flat l.T)) := Lib.hid (HLR.out.below hbw8 hh2)
            have y1w8 : hi2 <= w8.heap.size := by omega
            obtain ⟨p0w8, p1w8, p2w8, p3w8, p4w8⟩ := HLC.out.below hbw8 gw
            have RPw8 : Hid (LRow w8 H0 H1 (.slice x1 p.K.length y1) (.slice x2 p.T.length y2) p.K.length p.T.length (flat2 p.K) (flat p.T)) := Lib.hid (HPR.out.below hbw8 zH)
            have z1w8 : H1 <= w8.heap.size := by omega
            have glw8 : G < w8.heap.size := by omega
            have HB9 : Hid (true = (iloop l (D.take (k + 1))).2) := Lib.hid (by rw [HH.out.2, Hbt.out])
            have HM9 : Hid (Ew8.map (·.l) = (iloop l (D.take (k + 1))).1) := Lib.hid (by rw [HH.out.1, HMw8.out, HE.out])
            go_wp2_with fail
            go_roundw
            case rel => exact ⟨k + 1, true, _, _, by omega, by go_num, rfl, HB9, HOw8, HM9⟩
            case measure => simp [intOf]; omega
      | false =>
        have hbt := Hb.out.symm
        have Hbt := Lib.hid hbt
        clear hbt
        by_cases hle : l.o <= p.o
        · have hld : decide (l.o <= p.o) = true := decide_eq_true hle
          go_wp2_with fail
          refine wp_region_held_drew (S := (fun w' => w'.cell? ⟨w.heap.size, 0, none⟩ = some (.slice (some ⟨G, 0, none⟩) n c) /\ w'.cell? ⟨w.heap.size + 1, 0, none⟩ = some (.int .i64 l.o) /\ w'.cell? ⟨G, k * 5, none⟩ = some (.int .i64 p.o) /\ wr.heap.size <= w'.heap.size /\ Below wr.heap.size wr w')) (by kernel_rfl) ?_ (fun hHeld => ?_)
          · (first | assumption | exact rr3_start kdwr kl0wr p0wr | exact rr3_drew (rr3_start kdwr kl0wr p0wr) | exact rr3_drew (by assumption))
          refine step_read 0 57 rfl rfl (by kernel_rfl) (by kernel_rfl) (by kernel_rfl) (fun _ _ _ h => h) (by rfl) (v := ?_) (fun w hSw => ?_) (by assumption) ?_; rotate_left; (focus ((try dsimp only at hSw); go_simp; first | done | exact rfl)); simp only [List.set]
          refine step_read 1 58 rfl rfl (by kernel_rfl) (by kernel_rfl) (by kernel_rfl) (fun _ _ _ h => h) (by rfl) (v := ?_) (fun w hSw => ?_) (by assumption) ?_; rotate_left; (focus ((try dsimp only at hSw); go_simp; first | done | exact rfl)); simp only [List.set]
          refine step_read 2 59 rfl rfl (by kernel_rfl) (by kernel_rfl) (by kernel_rfl) (fun _ _ _ h => h) (by rfl) (v := ?_) (fun w hSw => ?_) (by assumption) ?_; rotate_left; (focus ((try dsimp only at hSw); go_simp; first | done | exact rfl)); simp only [List.set]
          refine step_read 3 60 rfl rfl (by kernel_rfl) (by kernel_rfl) (by kernel_rfl) (fun _ _ _ h => h) (by rfl) (v := ?_) (fun w hSw => ?_) (by assumption) ?_; rotate_left; (focus ((try dsimp only at hSw); go_simp; first | done | exact rfl)); simp only [List.set]
          refine step_read 4 61 rfl rfl (by kernel_rfl) (by kernel_rfl) (by kernel_rfl) (fun _ _ _ h => h) (by rfl) (v := ?_) (fun w hSw => ?_) (by assumption) ?_; rotate_left; (focus ((try dsimp only at hSw); go_simp; first | done | exact rfl)); simp only [List.set]
          refine step_read 5 62 rfl rfl (by kernel_rfl) (by kernel_rfl) (by kernel_rfl) (fun _ _ _ h => h) (by rfl) (v := ?_) (fun w hSw => ?_) (by assumption) ?_; rotate_left; (focus ((try dsimp only at hSw); go_simp; first | done | exact rfl)); simp only [List.set]
          refine step_read 6 63 rfl rfl (by kernel_rfl) (by kernel_rfl) (by kernel_rfl) (fun _ _ _ h => h) (by rfl) (v := ?_) (fun w hSw => ?_) (by assumption) ?_; rotate_left; (focus ((try dsimp only at hSw); go_simp; first | done | exact rfl)); simp only [List.set]
          refine step_read 7 64 rfl rfl (by kernel_rfl) (by kernel_rfl) (by kernel_rfl) (fun _ _ _ h => h) (by rfl) (v := ?_) (fun w hSw => ?_) (by assumption) ?_; rotate_left; (focus ((try dsimp only at hSw); go_simp; first | done | exact rfl)); simp only [List.set]
          refine step_read 8 65 rfl rfl (by kernel_rfl) (by kernel_rfl) (by kernel_rfl) (fun _ _ _ h => h) (by rfl) (v := ?_) (fun w hSw => ?_) (by assumption) ?_; rotate_left; (focus ((try dsimp only at hSw); go_simp; first | done | exact rfl)); simp only [List.set]
          refine step_read 9 66 rfl rfl (by kernel_rfl) (by kernel_rfl) (by kernel_rfl) (fun _ _ _ h => h) (by rfl) (v := ?_) (fun w hSw => ?_) (by assumption) ?_; rotate_left; (focus ((try dsimp only at hSw); go_simp; first | done | exact rfl)); simp only [List.set]
          refine step_read 10 67 rfl rfl (by kernel_rfl) (by kernel_rfl) (by kernel_rfl) (fun _ _ _ h => h) (by rfl) (v := ?_) (fun w hSw => ?_) (by assumption) ?_; rotate_left; (focus ((try dsimp only at hSw); go_simp; first | done | exact rfl)); simp only [List.set]
          refine step_read 11 68 rfl rfl (by kernel_rfl) (by kernel_rfl) (by kernel_rfl) (fun _ _ _ h => h) (by rfl) (v := ?_) (fun w hSw => ?_) (by assumption) ?_; rotate_left; (focus ((try dsimp only at hSw); go_simp; first | done | exact rfl)); simp only [List.set]
          refine step_read 12 69 rfl rfl (by kernel_rfl) (by kernel_rfl) (by kernel_rfl) (fun _ _ _ h => h) (by rfl) (v := ?_) (fun w hSw => ?_) (by assumption) ?_; rotate_left; (focus ((try dsimp only at hSw); go_simp; first | done | exact rfl)); simp only [List.set]
          refine wpAnyH_done (by kernel_rfl) ?_ _
          have HOwx : Hid (OutE q (wr.drew) X (.slice xa en xc) E) := Lib.hid (HO.out.drew)
          clear hzwr hbwr kdwr kl0wr kl1wr kl2wr kl3wr kl4wr krwr kfwr kxwr w0wr w1wr w2wr RLwr y1wr p0wr p1wr p2wr p3wr p4wr RPwr z1wr glwr
          generalize wr.drew = wx at *
          have hzwx : X < wx.heap.size := HOwx.out.size
          have hbwx : Below w.heap.size w wx := HQb.out.trans (HOwx.out.below.mono (by omega))
          have kdwx : wx.cell? ⟨w.heap.size, 0, none⟩ = some (.slice (some ⟨G, 0, none⟩) n c) := by rw [HOwx.out.below.cell (p := ⟨w.heap.size, 0, none⟩) (by show w.heap.size < X; omega)]; exact Hkd.out
          have kl0wx : wx.cell? ⟨w.heap.size + 1, 0, none⟩ = some (.int .i64 l.o) := by rw [HOwx.out.below.cell (p := ⟨w.heap.size + 1, 0, none⟩) (by show w.heap.size + 1 < X; omega)]; exact Hkl0.out
          have kl1wx : wx.cell? ⟨w.heap.size + 1, 1, none⟩ = some (.int .i64 l.s) := by rw [HOwx.out.below.cell (p := ⟨w.heap.size + 1, 1, none⟩) (by show w.heap.size + 1 < X; omega)]; exact Hkl1.out
          have kl2wx : wx.cell? ⟨w.heap.size + 1, 2, none⟩ = some (.int .i64 l.g) := by rw [HOwx.out.below.cell (p := ⟨w.heap.size + 1, 2, none⟩) (by show w.heap.size + 1 < X; omega)]; exact Hkl2.out
          have kl3wx : wx.cell? ⟨w.heap.size + 1, 3, none⟩ = some (.slice u1 l.K.length e1) := by rw [HOwx.out.below.cell (p := ⟨w.heap.size + 1, 3, none⟩) (by show w.heap.size + 1 < X; omega)]; exact Hkl3.out
          have kl4wx : wx.cell? ⟨w.heap.size + 1, 4, none⟩ = some (.slice u2 l.T.length e2) := by rw [HOwx.out.below.cell (p := ⟨w.heap.size + 1, 4, none⟩) (by show w.heap.size + 1 < X; omega)]; exact Hkl4.out
          have krwx : wx.cell? ⟨w.heap.size + 1 + 1, 0, none⟩ = some (.slice none 0 0) := by rw [HOwx.out.below.cell (p := ⟨w.heap.size + 1 + 1, 0, none⟩) (by show w.heap.size + 1 + 1 < X; omega)]; exact Hkr.out
          have kfwx : wx.frozen? ⟨w.heap.size + 1 + 1, 0, none⟩ = false := by rw [HOwx.out.below.frozen (p := ⟨w.heap.size + 1 + 1, 0, none⟩) (by show w.heap.size + 1 + 1 < X; omega)]; exact Hkf.out
          have kxwx : wx.cell? ⟨X, 0, none⟩ = some (.slice xa en xc) := HOwx.out.cell
          have w0wx : w.heap.size < wx.heap.size := by omega
          have w1wx : w.heap.size + 1 < wx.heap.size := by omega
          have w2wx : w.heap.size + 1 + 1 < wx.heap.size := by omega
          have RLwx : Hid (LRow wx lo2 hi2 (.slice u1 l.K.length e1) (.slice u2 l.T.length e2) l.K.length l.T.length (flat2 l.K) (flat l.T)) := Lib.hid (HLR.out.below hbwx hh2)
          have y1wx : hi2 <= wx.heap.size := by omega
          obtain ⟨p0wx, p1wx, p2wx, p3wx, p4wx⟩ := HLC.out.below hbwx gw
          have RPwx : Hid (LRow wx H0 H1 (.slice x1 p.K.length y1) (.slice x2 p.T.length y2) p.K.length p.T.length (flat2 p.K) (flat p.T)) := Lib.hid (HPR.out.below hbwx zH)
          have z1wx : H1 <= wx.heap.size := by omega
          have glwx : G < wx.heap.size := by omega
          have Hle := Lib.hid hle
          clear hle hld
          go_wp2_with fail
          go_region_law (first
            | (refine step_append_lies _ rfl _ _ 24 rfl (X + 1) 33 iL (.agg #[.int .i64 0, .int .i64 0, .int .i64 0, .slice none 0 0, .slice none 0 0]) 5 72 Try.underlying24 IL.out.1 IL.out.2.1 IL.out.2.2.1 IL.out.2.2.2 rfl (by decide) (.slice xa en xc) en (ecells E) rfl (HW.out.alloc _) ⟨w3.heap.size, 0, none⟩ 1 1 [.int .i64 l.o, .int .i64 l.s, .int .i64 l.g, .slice ra l.K.length rc, .slice sa l.T.length sc] rfl rfl (fun j u hj => cell_five_new w3 _ _ _ _ _ 33 j u hj) (ecs_one _ _ _ _ _ _ _ _ _) (by decide) (by unfold maxLen; omega) (by omega) (by have := HY.out.size; simp; omega) _ rfl ?_; intro g4 cap4 w4 hown4 hgrow4 hat4 hlt4; have HF := HY.out.app (e := ⟨l, .slice ra l.K.length rc, .slice sa l.T.length sc, wx.heap.size, w3.heap.size⟩) HR3.out (by have := HOwx.out.size; exact this) (Nat.le_refl _) (fun e' he' => (HOwx.out.row e' he').2.2) (fun k hk => (HOwx.out.lt hk).2) hgrow4 (by rw [HELw.out]) hown4 (by simpa using hat4); obtain ⟨⟨u4, c4⟩, f4, l4, l5, HO4⟩ := HF; have HO5 := Lib.hid HO4; clear hown4 hgrow4 hat4 hlt4 HO4)
            | (go_simp; go_at_call 58; refine (scopy_any l.o l.s l.g lo2 hi2 _ _ _ _ l.K l.T _ rfl rfl RLwx.out.drew y1wx hm1 hm2).mono ?_; rintro e w3 ⟨ru, rv, rfl, hr3, hb3'⟩; have hb3 := undrew hb3'; clear hb3'; have HY : Hid (OutE q w3 X (.slice xa en xc) E) := Lib.hid (HOwx.out.grow hb3); have hz3 := hb3.size; have HW : Hid (w3.ownsRow (X + 1) 33 5 (.slice xa en xc) en (ecells E)) := Lib.hid (by have h := HY.out.own; rw [HELw.out] at h; exact h); obtain ⟨ra, rc, sa, sc, rfl, rfl⟩ := hr3.slice; have HR3 := Lib.hid hr3; have cy := HY.out.cell; have hy := HY.out.size; clear hb3 hr3))
          all_goals
            obtain ⟨Ewy, hEwy⟩ : ∃ q, q = E ++ [(⟨l, .slice ra l.K.length rc, .slice sa l.T.length sc, wx.heap.size, w3.heap.size⟩ : Ent)] := ⟨_, rfl⟩
            rw [<- hEwy] at HO5
            have HELwy : Hid (Ewy.length = en + 1) := Lib.hid (by rw [hEwy, List.length_append, HELw.out]; rfl)
            have HMwy : Hid (Ewy.map (·.l) = E.map (·.l) ++ [l]) := Lib.hid (by rw [hEwy, List.map_append]; rfl)
            obtain ⟨xa1, hxa⟩ : ∃ q, q = (some (⟨g4, 0, none⟩ : Addr)) := ⟨_, rfl⟩
            rw [<- hxa] at HO5
            try rw [<- hxa]
            have HOwy := HO5
            clear HY HW HR3 hz3 cy hy c4 f4 l4 l5 hEwy hxa HO5 hzwx hbwx kdwx kl0wx kl1wx kl2wx kl3wx kl4wx krwx kfwx kxwx w0wx w1wx w2wx RLwx y1wx p0wx p1wx p2wx p3wx p4wx RPwx z1wx glwx
            generalize w4.setCell ⟨X, 0, none⟩ (.slice xa1 (en + 1) cap4) = wy at *
            obtain ⟨xc1, hxc⟩ : ∃ q, q = cap4 := ⟨_, rfl⟩
            rw [<- hxc] at HOwy
            try rw [<- hxc]
            clear hxc
            have hzwy : X < wy.heap.size := HOwy.out.size
            have hbwy : Below w.heap.size w wy := HQb.out.trans (HOwy.out.below.mono (by omega))
            have kdwy : wy.cell? ⟨w.heap.size, 0, none⟩ = some (.slice (some ⟨G, 0, none⟩) n c) := by rw [HOwy.out.below.cell (p := ⟨w.heap.size, 0, none⟩) (by show w.heap.size < X; omega)]; exact Hkd.out
            have kl0wy : wy.cell? ⟨w.heap.size + 1, 0, none⟩ = some (.int .i64 l.o) := by rw [HOwy.out.below.cell (p := ⟨w.heap.size + 1, 0, none⟩) (by show w.heap.size + 1 < X; omega)]; exact Hkl0.out
            have kl1wy : wy.cell? ⟨w.heap.size + 1, 1, none⟩ = some (.int .i64 l.s) := by rw [HOwy.out.below.cell (p := ⟨w.heap.size + 1, 1, none⟩) (by show w.heap.size + 1 < X; omega)]; exact Hkl1.out
            have kl2wy : wy.cell? ⟨w.heap.size + 1, 2, none⟩ = some (.int .i64 l.g) := by rw [HOwy.out.below.cell (p := ⟨w.heap.size + 1, 2, none⟩) (by show w.heap.size + 1 < X; omega)]; exact Hkl2.out
            have kl3wy : wy.cell? ⟨w.heap.size + 1, 3, none⟩ = some (.slice u1 l.K.length e1) := by rw [HOwy.out.below.cell (p := ⟨w.heap.size + 1, 3, none⟩) (by show w.heap.size + 1 < X; omega)]; exact Hkl3.out
            have kl4wy : wy.cell? ⟨w.heap.size + 1, 4, none⟩ = some (.slice u2 l.T.length e2) := by rw [HOwy.out.below.cell (p := ⟨w.heap.size + 1, 4, none⟩) (by show w.heap.size + 1 < X; omega)]; exact Hkl4.out
            have krwy : wy.cell? ⟨w.heap.size + 1 + 1, 0, none⟩ = some (.slice none 0 0) := by rw [HOwy.out.below.cell (p := ⟨w.heap.size + 1 + 1, 0, none⟩) (by show w.heap.size + 1 + 1 < X; omega)]; exact Hkr.out
            have kfwy : wy.frozen? ⟨w.heap.size + 1 + 1, 0, none⟩ = false := by rw [HOwy.out.below.frozen (p := ⟨w.heap.size + 1 + 1, 0, none⟩) (by show w.heap.size + 1 + 1 < X; omega)]; exact Hkf.out
            have kxwy : wy.cell? ⟨X, 0, none⟩ = some (.slice xa1 (en + 1) xc1) := HOwy.out.cell
            have w0wy : w.heap.size < wy.heap.size := by omega
            have w1wy : w.heap.size + 1 < wy.heap.size := by omega
            have w2wy : w.heap.size + 1 + 1 < wy.heap.size := by omega
            have RLwy : Hid (LRow wy lo2 hi2 (.slice u1 l.K.length e1) (.slice u2 l.T.length e2) l.K.length l.T.length (flat2 l.K) (flat l.T)) := Lib.hid (HLR.out.below hbwy hh2)
            have y1wy : hi2 <= wy.heap.size := by omega
            obtain ⟨p0wy, p1wy, p2wy, p3wy, p4wy⟩ := HLC.out.below hbwy gw
            have RPwy : Hid (LRow wy H0 H1 (.slice x1 p.K.length y1) (.slice x2 p.T.length y2) p.K.length p.T.length (flat2 p.K) (flat p.T)) := Lib.hid (HPR.out.below hbwy zH)
            have z1wy : H1 <= wy.heap.size := by omega
            have glwy : G < wy.heap.size := by omega
            by_cases ho : p.o = l.o
            · have hob : (p.o == l.o) = true := by simp [ho]
              have hob2 : (p.o != l.o) = false := by simp [ho]
              have HH := Lib.hid (iloop_iii Hp.out Hbt.out Hle.out ho)
              clear ho
              go_wp2_with fail
              go_quiet (fail)
              have HOw7 : Hid (OutE q (wy.drewN nq) X (.slice xa1 (en + 1) xc1) Ewy) := Lib.hid (HOwy.out.drewN nq)
              clear hzwy hbwy kdwy kl0wy kl1wy kl2wy kl3wy kl4wy krwy kfwy kxwy w0wy w1wy w2wy RLwy y1wy p0wy p1wy p2wy p3wy p4wy RPwy z1wy glwy
              generalize wy.drewN nq = w7 at *
              have hzw7 : X < w7.heap.size := HOw7.out.size
              have hbw7 : Below w.heap.size w w7 := HQb.out.trans (HOw7.out.below.mono (by omega))
              have kdw7 : w7.cell? ⟨w.heap.size, 0, none⟩ = some (.slice (some ⟨G, 0, none⟩) n c) := by rw [HOw7.out.below.cell (p := ⟨w.heap.size, 0, none⟩) (by show w.heap.size < X; omega)]; exact Hkd.out
              have kl0w7 : w7.cell? ⟨w.heap.size + 1, 0, none⟩ = some (.int .i64 l.o) := by rw [HOw7.out.below.cell (p := ⟨w.heap.size + 1, 0, none⟩) (by show w.heap.size + 1 < X; omega)]; exact Hkl0.out
              have kl1w7 : w7.cell? ⟨w.heap.size + 1, 1, none⟩ = some (.int .i64 l.s) := by rw [HOw7.out.below.cell (p := ⟨w.heap.size + 1, 1, none⟩) (by show w.heap.size + 1 < X; omega)]; exact Hkl1.out
              have kl2w7 : w7.cell? ⟨w.heap.size + 1, 2, none⟩ = some (.int .i64 l.g) := by rw [HOw7.out.below.cell (p := ⟨w.heap.size + 1, 2, none⟩) (by show w.heap.size + 1 < X; omega)]; exact Hkl2.out
              have kl3w7 : w7.cell? ⟨w.heap.size + 1, 3, none⟩ = some (.slice u1 l.K.length e1) := by rw [HOw7.out.below.cell (p := ⟨w.heap.size + 1, 3, none⟩) (by show w.heap.size + 1 < X; omega)]; exact Hkl3.out
              have kl4w7 : w7.cell? ⟨w.heap.size + 1, 4, none⟩ = some (.slice u2 l.T.length e2) := by rw [HOw7.out.below.cell (p := ⟨w.heap.size + 1, 4, none⟩) (by show w.heap.size + 1 < X; omega)]; exact Hkl4.out
              have krw7 : w7.cell? ⟨w.heap.size + 1 + 1, 0, none⟩ = some (.slice none 0 0) := by rw [HOw7.out.below.cell (p := ⟨w.heap.size + 1 + 1, 0, none⟩) (by show w.heap.size + 1 + 1 < X; omega)]; exact Hkr.out
              have kfw7 : w7.frozen? ⟨w.heap.size + 1 + 1, 0, none⟩ = false := by rw [HOw7.out.below.frozen (p := ⟨w.heap.size + 1 + 1, 0, none⟩) (by show w.heap.size + 1 + 1 < X; omega)]; exact Hkf.out
              have kxw7 : w7.cell? ⟨X, 0, none⟩ = some (.slice xa1 (en + 1) xc1) := HOw7.out.cell
              have w0w7 : w.heap.size < w7.heap.size := by omega
              have w1w7 : w.heap.size + 1 < w7.heap.size := by omega
              have w2w7 : w.heap.size + 1 + 1 < w7.heap.size := by omega
              have RLw7 : Hid (LRow w7 lo2 hi2 (.slice u1 l.K.length e1) (.slice u2 l.T.length e2) l.K.length l.T.length (flat2 l.K) (flat l.T)) := Lib.hid (HLR.out.below hbw7 hh2)
              have y1w7 : hi2 <= w7.heap.size := by omega
              obtain ⟨p0w7, p1w7, p2w7, p3w7, p4w7⟩ := HLC.out.below hbw7 gw
              have RPw7 : Hid (LRow w7 H0 H1 (.slice x1 p.K.length y1) (.slice x2 p.T.length y2) p.K.length p.T.length (flat2 p.K) (flat p.T)) := Lib.hid (HPR.out.below hbw7 zH)
              have z1w7 : H1 <= w7.heap.size := by omega
              have glw7 : G < w7.heap.size := by omega
              have HB9 : Hid (true = (iloop l (D.take (k + 1))).2) := Lib.hid (by rw [HH.out.2])
              have HM9 : Hid (Ewy.map (·.l) = (iloop l (D.take (k + 1))).1) := Lib.hid (by rw [HH.out.1, HMwy.out, HE.out])
              go_wp2_with fail
              go_roundw
              case rel => exact ⟨k + 1, true, _, _, by omega, by go_num, rfl, HB9, HOw7, HM9⟩
              case measure => simp [intOf]; omega
            · have hob : (p.o == l.o) = false := by simp [ho]
              have hob2 : (p.o != l.o) = true := by simp [ho]
              have HH := Lib.hid (iloop_iv Hp.out Hbt.out Hle.out ho)
              clear ho
              go_wp2_with fail
              go_quiet (fail)
              have HOw7 : Hid (OutE q (wy.drewN nq) X (.slice xa1 (en + 1) xc1) Ewy) := Lib.hid (HOwy.out.drewN nq)
              clear hzwy hbwy kdwy kl0wy kl1wy kl2wy kl3wy kl4wy krwy kfwy kxwy w0wy w1wy w2wy RLwy y1wy p0wy p1wy p2wy p3wy p4wy RPwy z1wy glwy
              generalize wy.drewN nq = w7 at *
              have hzw7 : X < w7.heap.size := HOw7.out.size
              have hbw7 : Below w.heap.size w w7 := HQb.out.trans (HOw7.out.below.mono (by omega))
              have kdw7 : w7.cell? ⟨w.heap.size, 0, none⟩ = some (.slice (some ⟨G, 0, none⟩) n c) := by rw [HOw7.out.below.cell (p := ⟨w.heap.size, 0, none⟩) (by show w.heap.size < X; omega)]; exact Hkd.out
              have kl0w7 : w7.cell? ⟨w.heap.size + 1, 0, none⟩ = some (.int .i64 l.o) := by rw [HOw7.out.below.cell (p := ⟨w.heap.size + 1, 0, none⟩) (by show w.heap.size + 1 < X; omega)]; exact Hkl0.out
              have kl1w7 : w7.cell? ⟨w.heap.size + 1, 1, none⟩ = some (.int .i64 l.s) := by rw [HOw7.out.below.cell (p := ⟨w.heap.size + 1, 1, none⟩) (by show w.heap.size + 1 < X; omega)]; exact Hkl1.out
              have kl2w7 : w7.cell? ⟨w.heap.size + 1, 2, none⟩ = some (.int .i64 l.g) := by rw [HOw7.out.below.cell (p := ⟨w.heap.size + 1, 2, none⟩) (by show w.heap.size + 1 < X; omega)]; exact Hkl2.out
              have kl3w7 : w7.cell? ⟨w.heap.size + 1, 3, none⟩ = some (.slice u1 l.K.length e1) := by rw [HOw7.out.below.cell (p := ⟨w.heap.size + 1, 3, none⟩) (by show w.heap.size + 1 < X; omega)]; exact Hkl3.out
              have kl4w7 : w7.cell? ⟨w.heap.size + 1, 4, none⟩ = some (.slice u2 l.T.length e2) := by rw [HOw7.out.below.cell (p := ⟨w.heap.size + 1, 4, none⟩) (by show w.heap.size + 1 < X; omega)]; exact Hkl4.out
              have krw7 : w7.cell? ⟨w.heap.size + 1 + 1, 0, none⟩ = some (.slice none 0 0) := by rw [HOw7.out.below.cell (p := ⟨w.heap.size + 1 + 1, 0, none⟩) (by show w.heap.size + 1 + 1 < X; omega)]; exact Hkr.out
              have kfw7 : w7.frozen? ⟨w.heap.size + 1 + 1, 0, none⟩ = false := by rw [HOw7.out.below.frozen (p := ⟨w.heap.size + 1 + 1, 0, none⟩) (by show w.heap.size + 1 + 1 < X; omega)]; exact Hkf.out
              have kxw7 : w7.cell? ⟨X, 0, none⟩ = some (.slice xa1 (en + 1) xc1) := HOw7.out.cell
              have w0w7 : w.heap.size < w7.heap.size := by omega
              have w1w7 : w.heap.size + 1 < w7.heap.size := by omega
              have w2w7 : w.heap.size + 1 + 1 < w7.heap.size := by omega
              have RLw7 : Hid (LRow w7 lo2 hi2 (.slice u1 l.K.length e1) (.slice u2 l.T.length e2) l.K.length l.T.length (flat2 l.K) (flat l.T)) := Lib.hid (HLR.out.below hbw7 hh2)
              have y1w7 : hi2 <= w7.heap.size := by omega
              obtain ⟨p0w7, p1w7, p2w7, p3w7, p4w7⟩ := HLC.out.below hbw7 gw
              have RPw7 : Hid (LRow w7 H0 H1 (.slice x1 p.K.length y1) (.slice x2 p.T.length y2) p.K.length p.T.length (flat2 p.K) (flat p.T)) := Lib.hid (HPR.out.below hbw7 zH)
              have z1w7 : H1 <= w7.heap.size := by omega
              have glw7 : G < w7.heap.size := by omega
              go_wp2_with fail
              go_region_law (first
                | (refine step_append_lies _ rfl _ _ 24 rfl (X + 1) 33 iL (.agg #[.int .i64 0, .int .i64 0, .int .i64 0, .slice none 0 0, .slice none 0 0]) 5 72 Try.underlying24 IL.out.1 IL.out.2.1 IL.out.2.2.1 IL.out.2.2.2 rfl (by decide) (.slice xa1 (en + 1) xc1) (en + 1) (ecells Ewy) rfl (HW.out.alloc _) ⟨w3.heap.size, 0, none⟩ 1 1 [.int .i64 p.o, .int .i64 p.s, .int .i64 p.g, .slice ra p.K.length rc, .slice sa p.T.length sc] rfl rfl (fun j u hj => cell_five_new w3 _ _ _ _ _ 33 j u hj) (ecs_one _ _ _ _ _ _ _ _ _) (by decide) (by unfold maxLen; omega) (by omega) (by have := HY.out.size; simp; omega) _ rfl ?_; intro g4 cap4 w4 hown4 hgrow4 hat4 hlt4; have HF := HY.out.app (e := ⟨p, .slice ra p.K.length rc, .slice sa p.T.length sc, w7.heap.size, w3.heap.size⟩) HR3.out (by have := HOw7.out.size; exact this) (Nat.le_refl _) (fun e' he' => (HOw7.out.row e' he').2.2) (fun k hk => (HOw7.out.lt hk).2) hgrow4 (by rw [HELwy.out]) hown4 (by simpa using hat4); obtain ⟨⟨u4, c4⟩, f4, l4, l5, HO4⟩ := HF; have HO5 := Lib.hid HO4; clear hown4 hgrow4 hat4 hlt4 HO4)
                | (go_simp; go_at_call 58; refine (scopy_any p.o p.s p.g H0 H1 _ _ _ _ p.K p.T _ rfl rfl RPw7.out.drew z1w7 hp1 hp2).mono ?_; rintro e w3 ⟨ru, rv, rfl, hr3, hb3'⟩; have hb3 := undrew hb3'; clear hb3'; have HY : Hid (OutE q w3 X (.slice xa1 (en + 1) xc1) Ewy) := Lib.hid (HOw7.out.grow hb3); have hz3 := hb3.size; have HW : Hid (w3.ownsRow (X + 1) 33 5 (.slice xa1 (en + 1) xc1) (en + 1) (ecells Ewy)) := Lib.hid (by have h := HY.out.own; rw [HELwy.out] at h; exact h); obtain ⟨ra, rc, sa, sc, rfl, rfl⟩ := hr3.slice; have HR3 := Lib.hid hr3; have cy := HY.out.cell; have hy := HY.out.size; clear hb3 hr3))
              all_goals
                obtain ⟨Ew8, hEw8⟩ : ∃ q, q = Ewy ++ [(⟨p, .slice ra p.K.length rc, .slice sa p.T.length sc, w7.heap.size, w3.heap.size⟩ : Ent)] := ⟨_, rfl⟩
                rw [<- hEw8] at HO5
                have HELw8 : Hid (Ew8.length = (en + 1) + 1) := Lib.hid (by rw [hEw8, List.length_append, HELwy.out]; rfl)
                have HMw8 : Hid (Ew8.map (·.l) = Ewy.map (·.l) ++ [p]) := Lib.hid (by rw [hEw8, List.map_append]; rfl)
                obtain ⟨xa2, hxa⟩ : ∃ q, q = (some (⟨g4, 0, none⟩ : Addr)) := ⟨_, rfl⟩
                rw [<- hxa] at HO5
                try rw [<- hxa]
                have HOw8 := HO5
                clear HY HW HR3 hz3 cy hy c4 f4 l4 l5 hEw8 hxa HO5 hzw7 hbw7 kdw7 kl0w7 kl1w7 kl2w7 kl3w7 kl4w7 krw7 kfw7 kxw7 w0w7 w1w7 w2w7 RLw7 y1w7 p0w7 p1w7 p2w7 p3w7 p4w7 RPw7 z1w7 glw7
                generalize w4.setCell ⟨X, 0, none⟩ (.slice xa2 ((en + 1) + 1) cap4) = w8 at *
                obtain ⟨xc2, hxc⟩ : ∃ q, q = cap4 := ⟨_, rfl⟩
                rw [<- hxc] at HOw8
                try rw [<- hxc]
                clear hxc
                have hzw8 : X < w8.heap.size := HOw8.out.size
                have hbw8 : Below w.heap.size w w8 := HQb.out.trans (HOw8.out.below.mono (by omega))
                have kdw8 : w8.cell? ⟨w.heap.size, 0, none⟩ = some (.slice (some ⟨G, 0, none⟩) n c) := by rw [HOw8.out.below.cell (p := ⟨w.heap.size, 0, none⟩) (by show w.heap.size < X; omega)]; exact Hkd.out
                have kl0w8 : w8.cell? ⟨w.heap.size + 1, 0, none⟩ = some (.int .i64 l.o) := by rw [HOw8.out.below.cell (p := ⟨w.heap.size + 1, 0, none⟩) (by show w.heap.size + 1 < X; omega)]; exact Hkl0.out
                have kl1w8 : w8.cell? ⟨w.heap.size + 1, 1, none⟩ = some (.int .i64 l.s) := by rw [HOw8.out.below.cell (p := ⟨w.heap.size + 1, 1, none⟩) (by show w.heap.size + 1 < X; omega)]; exact Hkl1.out
                have kl2w8 : w8.cell? ⟨w.heap.size + 1, 2, none⟩ = some (.int .i64 l.g) := by rw [HOw8.out.below.cell (p := ⟨w.heap.size + 1, 2, none⟩) (by show w.heap.size + 1 < X; omega)]; exact Hkl2.out
                have kl3w8 : w8.cell? ⟨w.heap.size + 1, 3, none⟩ = some (.slice u1 l.K.length e1) := by rw [HOw8.out.below.cell (p := ⟨w.heap.size + 1, 3, none⟩) (by show w.heap.size + 1 < X; omega)]; exact Hkl3.out
                have kl4w8 : w8.cell? ⟨w.heap.size + 1, 4, none⟩ = some (.slice u2 l.T.length e2) := by rw [HOw8.out.below.cell (p := ⟨w.heap.size + 1, 4, none⟩) (by show w.heap.size + 1 < X; omega)]; exact Hkl4.out
                have krw8 : w8.cell? ⟨w.heap.size + 1 + 1, 0, none⟩ = some (.slice none 0 0) := by rw [HOw8.out.below.cell (p := ⟨w.heap.size + 1 + 1, 0, none⟩) (by show w.heap.size + 1 + 1 < X; omega)]; exact Hkr.out
                have kfw8 : w8.frozen? ⟨w.heap.size + 1 + 1, 0, none⟩ = false := by rw [HOw8.out.below.frozen (p := ⟨w.heap.size + 1 + 1, 0, none⟩) (by show w.heap.size + 1 + 1 < X; omega)]; exact Hkf.out
                have kxw8 : w8.cell? ⟨X, 0, none⟩ = some (.slice xa2 ((en + 1) + 1) xc2) := HOw8.out.cell
                have w0w8 : w.heap.size < w8.heap.size := by omega
                have w1w8 : w.heap.size + 1 < w8.heap.size := by omega
                have w2w8 : w.heap.size + 1 + 1 < w8.heap.size := by omega
                have RLw8 : Hid (LRow w8 lo2 hi2 (.slice u1 l.K.length e1) (.slice u2 l.T.length e2) l.K.length l.T.length (flat2 l.K) (flat l.T)) := Lib.hid (HLR.out.below hbw8 hh2)
                have y1w8 : hi2 <= w8.heap.size := by omega
                obtain ⟨p0w8, p1w8, p2w8, p3w8, p4w8⟩ := HLC.out.below hbw8 gw
                have RPw8 : Hid (LRow w8 H0 H1 (.slice x1 p.K.length y1) (.slice x2 p.T.length y2) p.K.length p.T.length (flat2 p.K) (flat p.T)) := Lib.hid (HPR.out.below hbw8 zH)
                have z1w8 : H1 <= w8.heap.size := by omega
                have glw8 : G < w8.heap.size := by omega
                have HB9 : Hid (true = (iloop l (D.take (k + 1))).2) := Lib.hid (by rw [HH.out.2])
                have HM9 : Hid (Ew8.map (·.l) = (iloop l (D.take (k + 1))).1) := Lib.hid (by rw [HH.out.1, HMw8.out, HMwy.out, HE.out])
                go_wp2_with fail
                go_roundw
                case rel => exact ⟨k + 1, true, _, _, by omega, by go_num, rfl, HB9, HOw8, HM9⟩
                case measure => simp [intOf]; omega
        · have hld : decide (l.o <= p.o) = false := decide_eq_false hle
          go_wp2_with fail
          refine wp_region_held_drew (S := (fun w' => w'.cell? ⟨w.heap.size, 0, none⟩ = some (.slice (some ⟨G, 0, none⟩) n c) /\ w'.cell? ⟨w.heap.size + 1, 0, none⟩ = some (.int .i64 l.o) /\ w'.cell? ⟨G, k * 5, none⟩ = some (.int .i64 p.o) /\ wr.heap.size <= w'.heap.size /\ Below wr.heap.size wr w')) (by kernel_rfl) ?_ (fun hHeld => ?_)
          · (first | assumption | exact rr3_start kdwr kl0wr p0wr | exact rr3_drew (rr3_start kdwr kl0wr p0wr) | exact rr3_drew (by assumption))
          refine step_read 0 57 rfl rfl (by kernel_rfl) (by kernel_rfl) (by kernel_rfl) (fun _ _ _ h => h) (by rfl) (v := ?_) (fun w hSw => ?_) (by assumption) ?_; rotate_left; (focus ((try dsimp only at hSw); go_simp; first | done | exact rfl)); simp only [List.set]
          refine step_read 1 58 rfl rfl (by kernel_rfl) (by kernel_rfl) (by kernel_rfl) (fun _ _ _ h => h) (by rfl) (v := ?_) (fun w hSw => ?_) (by assumption) ?_; rotate_left; (focus ((try dsimp only at hSw); go_simp; first | done | exact rfl)); simp only [List.set]
          refine step_read 2 59 rfl rfl (by kernel_rfl) (by kernel_rfl) (by kernel_rfl) (fun _ _ _ h => h) (by rfl) (v := ?_) (fun w hSw => ?_) (by assumption) ?_; rotate_left; (focus ((try dsimp only at hSw); go_simp; first | done | exact rfl)); simp only [List.set]
          refine step_read 3 60 rfl rfl (by kernel_rfl) (by kernel_rfl) (by kernel_rfl) (fun _ _ _ h => h) (by rfl) (v := ?_) (fun w hSw => ?_) (by assumption) ?_; rotate_left; (focus ((try dsimp only at hSw); go_simp; first | done | exact rfl)); simp only [List.set]
          refine step_read 4 61 rfl rfl (by kernel_rfl) (by kernel_rfl) (by kernel_rfl) (fun _ _ _ h => h) (by rfl) (v := ?_) (fun w hSw => ?_) (by assumption) ?_; rotate_left; (focus ((try dsimp only at hSw); go_simp; first | done | exact rfl)); simp only [List.set]
          refine step_read 5 62 rfl rfl (by kernel_rfl) (by kernel_rfl) (by kernel_rfl) (fun _ _ _ h => h) (by rfl) (v := ?_) (fun w hSw => ?_) (by assumption) ?_; rotate_left; (focus ((try dsimp only at hSw); go_simp; first | done | exact rfl)); simp only [List.set]
          refine step_read 6 63 rfl rfl (by kernel_rfl) (by kernel_rfl) (by kernel_rfl) (fun _ _ _ h => h) (by rfl) (v := ?_) (fun w hSw => ?_) (by assumption) ?_; rotate_left; (focus ((try dsimp only at hSw); go_simp; first | done | exact rfl)); simp only [List.set]
          refine step_read 7 64 rfl rfl (by kernel_rfl) (by kernel_rfl) (by kernel_rfl) (fun _ _ _ h => h) (by rfl) (v := ?_) (fun w hSw => ?_) (by assumption) ?_; rotate_left; (focus ((try dsimp only at hSw); go_simp; first | done | exact rfl)); simp only [List.set]
          refine step_read 8 65 rfl rfl (by kernel_rfl) (by kernel_rfl) (by kernel_rfl) (fun _ _ _ h => h) (by rfl) (v := ?_) (fun w hSw => ?_) (by assumption) ?_; rotate_left; (focus ((try dsimp only at hSw); go_simp; first | done | exact rfl)); simp only [List.set]
          refine step_read 9 66 rfl rfl (by kernel_rfl) (by kernel_rfl) (by kernel_rfl) (fun _ _ _ h => h) (by rfl) (v := ?_) (fun w hSw => ?_) (by assumption) ?_; rotate_left; (focus ((try dsimp only at hSw); go_simp; first | done | exact rfl)); simp only [List.set]
          refine step_read 10 67 rfl rfl (by kernel_rfl) (by kernel_rfl) (by kernel_rfl) (fun _ _ _ h => h) (by rfl) (v := ?_) (fun w hSw => ?_) (by assumption) ?_; rotate_left; (focus ((try dsimp only at hSw); go_simp; first | done | exact rfl)); simp only [List.set]
          refine step_read 11 68 rfl rfl (by kernel_rfl) (by kernel_rfl) (by kernel_rfl) (fun _ _ _ h => h) (by rfl) (v := ?_) (fun w hSw => ?_) (by assumption) ?_; rotate_left; (focus ((try dsimp only at hSw); go_simp; first | done | exact rfl)); simp only [List.set]
          refine step_read 12 69 rfl rfl (by kernel_rfl) (by kernel_rfl) (by kernel_rfl) (fun _ _ _ h => h) (by rfl) (v := ?_) (fun w hSw => ?_) (by assumption) ?_; rotate_left; (focus ((try dsimp only at hSw); go_simp; first | done | exact rfl)); simp only [List.set]
          refine wpAnyH_done (by kernel_rfl) ?_ _
          have HOwx : Hid (OutE q (wr.drew) X (.slice xa en xc) E) := Lib.hid (HO.out.drew)
          clear hzwr hbwr kdwr kl0wr kl1wr kl2wr kl3wr kl4wr krwr kfwr kxwr w0wr w1wr w2wr RLwr y1wr p0wr p1wr p2wr p3wr p4wr RPwr z1wr glwr
          generalize wr.drew = wx at *
          have hzwx : X < wx.heap.size := HOwx.out.size
          have hbwx : Below w.heap.size w wx := HQb.out.trans (HOwx.out.below.mono (by omega))
          have kdwx : wx.cell? ⟨w.heap.size, 0, none⟩ = some (.slice (some ⟨G, 0, none⟩) n c) := by rw [HOwx.out.below.cell (p := ⟨w.heap.size, 0, none⟩) (by show w.heap.size < X; omega)]; exact Hkd.out
          have kl0wx : wx.cell? ⟨w.heap.size + 1, 0, none⟩ = some (.int .i64 l.o) := by rw [HOwx.out.below.cell (p := ⟨w.heap.size + 1, 0, none⟩) (by show w.heap.size + 1 < X; omega)]; exact Hkl0.out
          have kl1wx : wx.cell? ⟨w.heap.size + 1, 1, none⟩ = some (.int .i64 l.s) := by rw [HOwx.out.below.cell (p := ⟨w.heap.size + 1, 1, none⟩) (by show w.heap.size + 1 < X; omega)]; exact Hkl1.out
          have kl2wx : wx.cell? ⟨w.heap.size + 1, 2, none⟩ = some (.int .i64 l.g) := by rw [HOwx.out.below.cell (p := ⟨w.heap.size + 1, 2, none⟩) (by show w.heap.size + 1 < X; omega)]; exact Hkl2.out
          have kl3wx : wx.cell? ⟨w.heap.size + 1, 3, none⟩ = some (.slice u1 l.K.length e1) := by rw [HOwx.out.below.cell (p := ⟨w.heap.size + 1, 3, none⟩) (by show w.heap.size + 1 < X; omega)]; exact Hkl3.out
          have kl4wx : wx.cell? ⟨w.heap.size + 1, 4, none⟩ = some (.slice u2 l.T.length e2) := by rw [HOwx.out.below.cell (p := ⟨w.heap.size + 1, 4, none⟩) (by show w.heap.size + 1 < X; omega)]; exact Hkl4.out
          have krwx : wx.cell? ⟨w.heap.size + 1 + 1, 0, none⟩ = some (.slice none 0 0) := by rw [HOwx.out.below.cell (p := ⟨w.heap.size + 1 + 1, 0, none⟩) (by show w.heap.size + 1 + 1 < X; omega)]; exact Hkr.out
          have kfwx : wx.frozen? ⟨w.heap.size + 1 + 1, 0, none⟩ = false := by rw [HOwx.out.below.frozen (p := ⟨w.heap.size + 1 + 1, 0, none⟩) (by show w.heap.size + 1 + 1 < X; omega)]; exact Hkf.out
          have kxwx : wx.cell? ⟨X, 0, none⟩ = some (.slice xa en xc) := HOwx.out.cell
          have w0wx : w.heap.size < wx.heap.size := by omega
          have w1wx : w.heap.size + 1 < wx.heap.size := by omega
          have w2wx : w.heap.size + 1 + 1 < wx.heap.size := by omega
          have RLwx : Hid (LRow wx lo2 hi2 (.slice u1 l.K.length e1) (.slice u2 l.T.length e2) l.K.length l.T.length (flat2 l.K) (flat l.T)) := Lib.hid (HLR.out.below hbwx hh2)
          have y1wx : hi2 <= wx.heap.size := by omega
          obtain ⟨p0wx, p1wx, p2wx, p3wx, p4wx⟩ := HLC.out.below hbwx gw
          have RPwx : Hid (LRow wx H0 H1 (.slice x1 p.K.length y1) (.slice x2 p.T.length y2) p.K.length p.T.length (flat2 p.K) (flat p.T)) := Lib.hid (HPR.out.below hbwx zH)
          have z1wx : H1 <= wx.heap.size := by omega
          have glwx : G < wx.heap.size := by omega
          have Hle := Lib.hid hle
          clear hle hld
          by_cases ho : p.o = l.o
          · have hob : (p.o == l.o) = true := by simp [ho]
            have hob2 : (p.o != l.o) = false := by simp [ho]
            have HH := Lib.hid (iloop_i Hp.out (.inr (by have := Hle.out; omega)) ho)
            clear ho
            go_wp2_with fail
            go_quiet (fail)
            have HOw7 : Hid (OutE q (wx.drewN nq) X (.slice xa en xc) E) := Lib.hid (HOwx.out.drewN nq)
            clear hzwx hbwx kdwx kl0wx kl1wx kl2wx kl3wx kl4wx krwx kfwx kxwx w0wx w1wx w2wx RLwx y1wx p0wx p1wx p2wx p3wx p4wx RPwx z1wx glwx
            generalize wx.drewN nq = w7 at *
            have hzw7 : X < w7.heap.size := HOw7.out.size
            have hbw7 : Below w.heap.size w w7 := HQb.out.trans (HOw7.out.below.mono (by omega))
            have kdw7 : w7.cell? ⟨w.heap.size, 0, none⟩ = some (.slice (some ⟨G, 0, none⟩) n c) := by rw [HOw7.out.below.cell (p := ⟨w.heap.size, 0, none⟩) (by show w.heap.size < X; omega)]; exact Hkd.out
            have kl0w7 : w7.cell? ⟨w.heap.size + 1, 0, none⟩ = some (.int .i64 l.o) := by rw [HOw7.out.below.cell (p := ⟨w.heap.size + 1, 0, none⟩) (by show w.heap.size + 1 < X; omega)]; exact Hkl0.out
            have kl1w7 : w7.cell? ⟨w.heap.size + 1, 1, none⟩ = some (.int .i64 l.s) := by rw [HOw7.out.below.cell (p := ⟨w.heap.size + 1, 1, none⟩) (by show w.heap.size + 1 < X; omega)]; exact Hkl1.out
            have kl2w7 : w7.cell? ⟨w.heap.size + 1, 2, none⟩ = some (.int .i64 l.g) := by rw [HOw7.out.below.cell (p := ⟨w.heap.size + 1, 2, none⟩) (by show w.heap.size + 1 < X; omega)]; exact Hkl2.out
            have kl3w7 : w7.cell? ⟨w.heap.size + 1, 3, none⟩ = some (.slice u1 l.K.length e1) := by rw [HOw7.out.below.cell (p := ⟨w.heap.size + 1, 3, none⟩) (by show w.heap.size + 1 < X; omega)]; exact Hkl3.out
            have kl4w7 : w7.cell? ⟨w.heap.size + 1, 4, none⟩ = some (.slice u2 l.T.length e2) := by rw [HOw7.out.below.cell (p := ⟨w.heap.size + 1, 4, none⟩) (by show w.heap.size + 1 < X; omega)]; exact Hkl4.out
            have krw7 : w7.cell? ⟨w.heap.size + 1 + 1, 0, none⟩ = some (.slice none 0 0) := by rw [HOw7.out.below.cell (p := ⟨w.heap.size + 1 + 1, 0, none⟩) (by show w.heap.size + 1 + 1 < X; omega)]; exact Hkr.out
            have kfw7 : w7.frozen? ⟨w.heap.size + 1 + 1, 0, none⟩ = false := by rw [HOw7.out.below.frozen (p := ⟨w.heap.size + 1 + 1, 0, none⟩) (by show w.heap.size + 1 + 1 < X; omega)]; exact Hkf.out
            have kxw7 : w7.cell? ⟨X, 0, none⟩ = some (.slice xa en xc) := HOw7.out.cell
            have w0w7 : w.heap.size < w7.heap.size := by omega
            have w1w7 : w.heap.size + 1 < w7.heap.size := by omega
            have w2w7 : w.heap.size + 1 + 1 < w7.heap.size := by omega
            have RLw7 : Hid (LRow w7 lo2 hi2 (.slice u1 l.K.length e1) (.slice u2 l.T.length e2) l.K.length l.T.length (flat2 l.K) (flat l.T)) := Lib.hid (HLR.out.below hbw7 hh2)
            have y1w7 : hi2 <= w7.heap.size := by omega
            obtain ⟨p0w7, p1w7, p2w7, p3w7, p4w7⟩ := HLC.out.below hbw7 gw
            have RPw7 : Hid (LRow w7 H0 H1 (.slice x1 p.K.length y1) (.slice x2 p.T.length y2) p.K.length p.T.length (flat2 p.K) (flat p.T)) := Lib.hid (HPR.out.below hbw7 zH)
            have z1w7 : H1 <= w7.heap.size := by omega
            have glw7 : G < w7.heap.size := by omega
            have HB9 : Hid (false = (iloop l (D.take (k + 1))).2) := Lib.hid (by rw [HH.out.2, Hbt.out])
            have HM9 : Hid (E.map (·.l) = (iloop l (D.take (k + 1))).1) := Lib.hid (by rw [HH.out.1, HE.out])
            go_wp2_with fail
            go_roundw
            case rel => exact ⟨k + 1, false, _, _, by omega, by go_num, rfl, HB9, HOw7, HM9⟩
            case measure => simp [intOf]; omega
          · have hob : (p.o == l.o) = false := by simp [ho]
            have hob2 : (p.o != l.o) = true := by simp [ho]
            have HH := Lib.hid (iloop_ii Hp.out (.inr (by have := Hle.out; omega)) ho)
            clear ho
            go_wp2_with fail
            go_quiet (fail)
            have HOw7 : Hid (OutE q (wx.drewN nq) X (.slice xa en xc) E) := Lib.hid (HOwx.out.drewN nq)
            clear hzwx hbwx kdwx kl0wx kl1wx kl2wx kl3wx kl4wx krwx kfwx kxwx w0wx w1wx w2wx RLwx y1wx p0wx p1wx p2wx p3wx p4wx RPwx z1wx glwx
            generalize wx.drewN nq = w7 at *
            have hzw7 : X < w7.heap.size := HOw7.out.size
            have hbw7 : Below w.heap.size w w7 := HQb.out.trans (HOw7.out.below.mono (by omega))
            have kdw7 : w7.cell? ⟨w.heap.size, 0, none⟩ = some (.slice (some ⟨G, 0, none⟩) n c) := by rw [HOw7.out.below.cell (p := ⟨w.heap.size, 0, none⟩) (by show w.heap.size < X; omega)]; exact Hkd.out
            have kl0w7 : w7.cell? ⟨w.heap.size + 1, 0, none⟩ = some (.int .i64 l.o) := by rw [HOw7.out.below.cell (p := ⟨w.heap.size + 1, 0, none⟩) (by show w.heap.size + 1 < X; omega)]; exact Hkl0.out
            have kl1w7 : w7.cell? ⟨w.heap.size + 1, 1, none⟩ = some (.int .i64 l.s) := by rw [HOw7.out.below.cell (p := ⟨w.heap.size + 1, 1, none⟩) (by show w.heap.size + 1 < X; omega)]; exact Hkl1.out
            have kl2w7 : w7.cell? ⟨w.heap.size + 1, 2, none⟩ = some (.int .i64 l.g) := by rw [HOw7.out.below.cell (p := ⟨w.heap.size + 1, 2, none⟩) (by show w.heap.size + 1 < X; omega)]; exact Hkl2.out
            have kl3w7 : w7.cell? ⟨w.heap.size + 1, 3, none⟩ = some (.slice u1 l.K.length e1) := by rw [HOw7.out.below.cell (p := ⟨w.heap.size + 1, 3, none⟩) (by show w.heap.size + 1 < X; omega)]; exact Hkl3.out
            have kl4w7 : w7.cell? ⟨w.heap.size + 1, 4, none⟩ = some (.slice u2 l.T.length e2) := by rw [HOw7.out.below.cell (p := ⟨w.heap.size + 1, 4, none⟩) (by show w.heap.size + 1 < X; omega)]; exact Hkl4.out
            have krw7 : w7.cell? ⟨w.heap.size + 1 + 1, 0, none⟩ = some (.slice none 0 0) := by rw [HOw7.out.below.cell (p := ⟨w.heap.size + 1 + 1, 0, none⟩) (by show w.heap.size + 1 + 1 < X; omega)]; exact Hkr.out
            have kfw7 : w7.frozen? ⟨w.heap.size + 1 + 1, 0, none⟩ = false := by rw [HOw7.out.below.frozen (p := ⟨w.heap.size + 1 + 1, 0, none⟩) (by show w.heap.size + 1 + 1 < X; omega)]; exact Hkf.out
            have kxw7 : w7.cell? ⟨X, 0, none⟩ = some (.slice xa en xc) := HOw7.out.cell
            have w0w7 : w.heap.size < w7.heap.size := by omega
            have w1w7 : w.heap.size + 1 < w7.heap.size := by omega
            have w2w7 : w.heap.size + 1 + 1 < w7.heap.size := by omega
            have RLw7 : Hid (LRow w7 lo2 hi2 (.slice u1 l.K.length e1) (.slice u2 l.T.length e2) l.K.length l.T.length (flat2 l.K) (flat l.T)) := Lib.hid (HLR.out.below hbw7 hh2)
            have y1w7 : hi2 <= w7.heap.size := by omega
            obtain ⟨p0w7, p1w7, p2w7, p3w7, p4w7⟩ := HLC.out.below hbw7 gw
            have RPw7 : Hid (LRow w7 H0 H1 (.slice x1 p.K.length y1) (.slice x2 p.T.length y2) p.K.length p.T.length (flat2 p.K) (flat p.T)) := Lib.hid (HPR.out.below hbw7 zH)
            have z1w7 : H1 <= w7.heap.size := by omega
            have glw7 : G < w7.heap.size := by omega
            go_wp2_with fail
            go_region_law (first
              | (refine step_append_lies _ rfl _ _ 24 rfl (X + 1) 33 iL (.agg #[.int .i64 0, .int .i64 0, .int .i64 0, .slice none 0 0, .slice none 0 0]) 5 72 Try.underlying24 IL.out.1 IL.out.2.1 IL.out.2.2.1 IL.out.2.2.2 rfl (by decide) (.slice xa en xc) en (ecells E) rfl (HW.out.alloc _) ⟨w3.heap.size, 0, none⟩ 1 1 [.int .i64 p.o, .int .i64 p.s, .int .i64 p.g, .slice ra p.K.length rc, .slice sa p.T.length sc] rfl rfl (fun j u hj => cell_five_new w3 _ _ _ _ _ 33 j u hj) (ecs_one _ _ _ _ _ _ _ _ _) (by decide) (by unfold maxLen; omega) (by omega) (by have := HY.out.size; simp; omega) _ rfl ?_; intro g4 cap4 w4 hown4 hgrow4 hat4 hlt4; have HF := HY.out.app (e := ⟨p, .slice ra p.K.length rc, .slice sa p.T.length sc, w7.heap.size, w3.heap.size⟩) HR3.out (by have := HOw7.out.size; exact this) (Nat.le_refl _) (fun e' he' => (HOw7.out.row e' he').2.2) (fun k hk => (HOw7.out.lt hk).2) hgrow4 (by rw [HELw.out]) hown4 (by simpa using hat4); obtain ⟨⟨u4, c4⟩, f4, l4, l5, HO4⟩ := HF; have HO5 := Lib.hid HO4; clear hown4 hgrow4 hat4 hlt4 HO4)
              | (go_simp; go_at_call 58; refine (scopy_any p.o p.s p.g H0 H1 _ _ _ _ p.K p.T _ rfl rfl RPw7.out.drew z1w7 hp1 hp2).mono ?_; rintro e w3 ⟨ru, rv, rfl, hr3, hb3'⟩; have hb3 := undrew hb3'; clear hb3'; have HY : Hid (OutE q w3 X (.slice xa en xc) E) := Lib.hid (HOw7.out.grow hb3); have hz3 := hb3.size; have HW : Hid (w3.ownsRow (X + 1) 33 5 (.slice xa en xc) en (ecells E)) := Lib.hid (by have h := HY.out.own; rw [HELw.out] at h; exact h); obtain ⟨ra, rc, sa, sc, rfl, rfl⟩ := hr3.slice; have HR3 := Lib.hid hr3; have cy := HY.out.cell; have hy := HY.out.size; clear hb3 hr3))
            all_goals
              obtain ⟨Ew8, hEw8⟩ : ∃ q, q = E ++ [(⟨p, .slice ra p.K.length rc, .slice sa p.T.length sc, w7.heap.size, w3.heap.size⟩ : Ent)] := ⟨_, rfl⟩
              rw [<- hEw8] at HO5
              have HELw8 : Hid (Ew8.length = en + 1) := Lib.hid (by rw [hEw8, List.length_append, HELw.out]; rfl)
              have HMw8 : Hid (Ew8.map (·.l) = E.map (·.l) ++ [p]) := Lib.hid (by rw [hEw8, List.map_append]; rfl)
              obtain ⟨xa1, hxa⟩ : ∃ q, q = (some (⟨g4, 0, none⟩ : Addr)) := ⟨_, rfl⟩
              rw [<- hxa] at HO5
              try rw [<- hxa]
              have HOw8 := HO5
              clear HY HW HR3 hz3 cy hy c4 f4 l4 l5 hEw8 hxa HO5 hzw7 hbw7 kdw7 kl0w7 kl1w7 kl2w7 kl3w7 kl4w7 krw7 kfw7 kxw7 w0w7 w1w7 w2w7 RLw7 y1w7 p0w7 p1w7 p2w7 p3w7 p4w7 RPw7 z1w7 glw7
              generalize w4.setCell ⟨X, 0, none⟩ (.slice xa1 (en + 1) cap4) = w8 at *
              obtain ⟨xc1, hxc⟩ : ∃ q, q = cap4 := ⟨_, rfl⟩
              rw [<- hxc] at HOw8
              try rw [<- hxc]
              clear hxc
              have hzw8 : X < w8.heap.size := HOw8.out.size
              have hbw8 : Below w.heap.size w w8 := HQb.out.trans (HOw8.out.below.mono (by omega))
              have kdw8 : w8.cell? ⟨w.heap.size, 0, none⟩ = some (.slice (some ⟨G, 0, none⟩) n c) := by rw [HOw8.out.below.cell (p := ⟨w.heap.size, 0, none⟩) (by show w.heap.size < X; omega)]; exact Hkd.out
              have kl0w8 : w8.cell? ⟨w.heap.size + 1, 0, none⟩ = some (.int .i64 l.o) := by rw [HOw8.out.below.cell (p := ⟨w.heap.size + 1, 0, none⟩) (by show w.heap.size + 1 < X; omega)]; exact Hkl0.out
              have kl1w8 : w8.cell? ⟨w.heap.size + 1, 1, none⟩ = some (.int .i64 l.s) := by rw [HOw8.out.below.cell (p := ⟨w.heap.size + 1, 1, none⟩) (by show w.heap.size + 1 < X; omega)]; exact Hkl1.out
              have kl2w8 : w8.cell? ⟨w.heap.size + 1, 2, none⟩ = some (.int .i64 l.g) := by rw [HOw8.out.below.cell (p := ⟨w.heap.size + 1, 2, none⟩) (by show w.heap.size + 1 < X; omega)]; exact Hkl2.out
              have kl3w8 : w8.cell? ⟨w.heap.size + 1, 3, none⟩ = some (.slice u1 l.K.length e1) := by rw [HOw8.out.below.cell (p := ⟨w.heap.size + 1, 3, none⟩) (by show w.heap.size + 1 < X; omega)]; exact Hkl3.out
              have kl4w8 : w8.cell? ⟨w.heap.size + 1, 4, none⟩ = some (.slice u2 l.T.length e2) := by rw [HOw8.out.below.cell (p := ⟨w.heap.size + 1, 4, none⟩) (by show w.heap.size + 1 < X; omega)]; exact Hkl4.out
              have krw8 : w8.cell? ⟨w.heap.size + 1 + 1, 0, none⟩ = some (.slice none 0 0) := by rw [HOw8.out.below.cell (p := ⟨w.heap.size + 1 + 1, 0, none⟩) (by show w.heap.size + 1 + 1 < X; omega)]; exact Hkr.out
              have kfw8 : w8.frozen? ⟨w.heap.size + 1 + 1, 0, none⟩ = false := by rw [HOw8.out.below.frozen (p := ⟨w.heap.size + 1 + 1, 0, none⟩) (by show w.heap.size + 1 + 1 < X; omega)]; exact Hkf.out
              have kxw8 : w8.cell? ⟨X, 0, none⟩ = some (.slice xa1 (en + 1) xc1) := HOw8.out.cell
              have w0w8 : w.heap.size < w8.heap.size := by omega
              have w1w8 : w.heap.size + 1 < w8.heap.size := by omega
              have w2w8 : w.heap.size + 1 + 1 < w8.heap.size := by omega
              have RLw8 : Hid (LRow w8 lo2 hi2 (.slice u1 l.K.length e1) (.slice u2 l.T.length e2) l.K.length l.T.length (flat2 l.K) (flat l.T)) := Lib.hid (HLR.out.below hbw8 hh2)
              have y1w8 : hi2 <= w8.heap.size := by omega
              obtain ⟨p0w8, p1w8, p2w8, p3w8, p4w8⟩ := HLC.out.below hbw8 gw
              have RPw8 : Hid (LRow w8 H0 H1 (.slice x1 p.K.length y1) (.slice x2 p.T.length y2) p.K.length p.T.length (flat2 p.K) (flat p.T)) := Lib.hid (HPR.out.below hbw8 zH)
              have z1w8 : H1 <= w8.heap.size := by omega
              have glw8 : G < w8.heap.size := by omega
              have HB9 : Hid (false = (iloop l (D.take (k + 1))).2) := Lib.hid (by rw [HH.out.2, Hbt.out])
              have HM9 : Hid (Ew8.map (·.l) = (iloop l (D.take (k + 1))).1) := Lib.hid (by rw [HH.out.1, HMw8.out, HE.out])
              go_wp2_with fail
              go_roundw
              case rel => exact ⟨k + 1, false, _, _, by omega, by go_num, rfl, HB9, HOw8, HM9⟩
              case measure => simp [intOf]; omega
    · have hge : ¬ ((k : Int) < (n : Int)) := by omega
      have hkn : D.take k = D := List.take_of_length_le (by have := HN.out; omega)
      rw [hkn] at Hb HE
      have hen : en <= 1000 := by omega
      clear hkn
      have hzwr : X < wr.heap.size := HO.out.size
      have hbwr : Below w.heap.size w wr := HQb.out.trans (HO.out.below.mono (by omega))
      have kdwr : wr.cell? ⟨w.heap.size, 0, none⟩ = some (.slice a n c) := by rw [HO.out.below.cell (p := ⟨w.heap.size, 0, none⟩) (by show w.heap.size < X; omega)]; exact Hkd.out
      have kl0wr : wr.cell? ⟨w.heap.size + 1, 0, none⟩ = some (.int .i64 l.o) := by rw [HO.out.below.cell (p := ⟨w.heap.size + 1, 0, none⟩) (by show w.heap.size + 1 < X; omega)]; exact Hkl0.out
      have kl1wr : wr.cell? ⟨w.heap.size + 1, 1, none⟩ = some (.int .i64 l.s) := by rw [HO.out.below.cell (p := ⟨w.heap.size + 1, 1, none⟩) (by show w.heap.size + 1 < X; omega)]; exact Hkl1.out
      have kl2wr : wr.cell? ⟨w.heap.size + 1, 2, none⟩ = some (.int .i64 l.g) := by rw [HO.out.below.cell (p := ⟨w.heap.size + 1, 2, none⟩) (by show w.heap.size + 1 < X; omega)]; exact Hkl2.out
      have kl3wr : wr.cell? ⟨w.heap.size + 1, 3, none⟩ = some (.slice u1 l.K.length e1) := by rw [HO.out.below.cell (p := ⟨w.heap.size + 1, 3, none⟩) (by show w.heap.size + 1 < X; omega)]; exact Hkl3.out
      have kl4wr : wr.cell? ⟨w.heap.size + 1, 4, none⟩ = some (.slice u2 l.T.length e2) := by rw [HO.out.below.cell (p := ⟨w.heap.size + 1, 4, none⟩) (by show w.heap.size + 1 < X; omega)]; exact Hkl4.out
      have krwr : wr.cell? ⟨w.heap.size + 1 + 1, 0, none⟩ = some (.slice none 0 0) := by rw [HO.out.below.cell (p := ⟨w.heap.size + 1 + 1, 0, none⟩) (by show w.heap.size + 1 + 1 < X; omega)]; exact Hkr.out
      have kfwr : wr.frozen? ⟨w.heap.size + 1 + 1, 0, none⟩ = false := by rw [HO.out.below.frozen (p := ⟨w.heap.size + 1 + 1, 0, none⟩) (by show w.heap.size + 1 + 1 < X; omega)]; exact Hkf.out
      have kxwr : wr.cell? ⟨X, 0, none⟩ = some (.slice xa en xc) := HO.out.cell
      have w0wr : w.heap.size < wr.heap.size := by omega
      have w1wr : w.heap.size + 1 < wr.heap.size := by omega
      have w2wr : w.heap.size + 1 + 1 < wr.heap.size := by omega
      have RLwr : Hid (LRow wr lo2 hi2 (.slice u1 l.K.length e1) (.slice u2 l.T.length e2) l.K.length l.T.length (flat2 l.K) (flat l.T)) := Lib.hid (HLR.out.below hbwr hh2)
      have y1wr : hi2 <= wr.heap.size := by omega
      go_upto_if 98 with (fail)
      go_cut [] (fun wx => ∃ (rv : Value) (E' : List Ent), Hid (OutE q wx X rv E' /\ E'.map (·.l) = dput D l /\ E'.length <= 1000))
      case first =>
        cases b with
        | true =>
          have hdp : dput D l = E.map (·.l) := by unfold dput; rw [if_pos Hb.out.symm, HE.out]
          have HDP := Lib.hid hdp
          clear hdp
          go_wp2_with fail
          go_meet
          exact ⟨_, _, Lib.hid ⟨HO.out, HDP.out.symm, by rw [HELw.out]; omega⟩⟩
        | false =>
          have hdp : dput D l = E.map (·.l) ++ [l] := by unfold dput; rw [if_neg (by rw [<- Hb.out]; decide), HE.out]
          have HDP := Lib.hid hdp
          clear hdp
          go_wp2_with fail
          go_region_law (first
            | (refine step_append_lies _ rfl _ _ 24 rfl (X + 1) 33 iL (.agg #[.int .i64 0, .int .i64 0, .int .i64 0, .slice none 0 0, .slice none 0 0]) 5 72 Try.underlying24 IL.out.1 IL.out.2.1 IL.out.2.2.1 IL.out.2.2.2 rfl (by decide) (.slice xa en xc) en (ecells E) rfl (HW.out.alloc _) ⟨w3.heap.size, 0, none⟩ 1 1 [.int .i64 l.o, .int .i64 l.s, .int .i64 l.g, .slice ra l.K.length rc, .slice sa l.T.length sc] rfl rfl (fun j u hj => cell_five_new w3 _ _ _ _ _ 33 j u hj) (ecs_one _ _ _ _ _ _ _ _ _) (by decide) (by unfold maxLen; omega) (by omega) (by have := HY.out.size; simp; omega) _ rfl ?_; intro g4 cap4 w4 hown4 hgrow4 hat4 hlt4; have HF := HY.out.app (e := ⟨l, .slice ra l.K.length rc, .slice sa l.T.length sc, wr.heap.size, w3.heap.size⟩) HR3.out (by have := HO.out.size; exact this) (Nat.le_refl _) (fun e' he' => (HO.out.row e' he').2.2) (fun k hk => (HO.out.lt hk).2) hgrow4 (by rw [HELw.out]) hown4 (by simpa using hat4); obtain ⟨⟨u4, c4⟩, f4, l4, l5, HO4⟩ := HF; have HO5 := Lib.hid HO4; clear hown4 hgrow4 hat4 hlt4 HO4)
            | (go_simp; go_at_call 58; refine (scopy_any l.o l.s l.g lo2 hi2 _ _ _ _ l.K l.T _ rfl rfl RLwr.out.drew y1wr hm1 hm2).mono ?_; rintro e w3 ⟨ru, rv, rfl, hr3, hb3'⟩; have hb3 := undrew hb3'; clear hb3'; have HY : Hid (OutE q w3 X (.slice xa en xc) E) := Lib.hid (HO.out.grow hb3); have hz3 := hb3.size; have HW : Hid (w3.ownsRow (X + 1) 33 5 (.slice xa en xc) en (ecells E)) := Lib.hid (by have h := HY.out.own; rw [HELw.out] at h; exact h); obtain ⟨ra, rc, sa, sc, rfl, rfl⟩ := hr3.slice; have HR3 := Lib.hid hr3; have cy := HY.out.cell; have hy := HY.out.size; clear hb3 hr3))
          all_goals
            obtain ⟨Ewy, hEwy⟩ : ∃ q, q = E ++ [(⟨l, .slice ra l.K.length rc, .slice sa l.T.length sc, wr.heap.size, w3.heap.size⟩ : Ent)] := ⟨_, rfl⟩
            rw [<- hEwy] at HO5
            have HELwy : Hid (Ewy.length = en + 1) := Lib.hid (by rw [hEwy, List.length_append, HELw.out]; rfl)
            have HMwy : Hid (Ewy.map (·.l) = E.map (·.l) ++ [l]) := Lib.hid (by rw [hEwy, List.map_append]; rfl)
            obtain ⟨xa1, hxa⟩ : ∃ q, q = (some (⟨g4, 0, none⟩ : Addr)) := ⟨_, rfl⟩
            rw [<- hxa] at HO5
            try rw [<- hxa]
            have HOwy := HO5
            clear HY HW HR3 hz3 cy hy c4 f4 l4 l5 hEwy hxa HO5 hzwr hbwr kdwr kl0wr kl1wr kl2wr kl3wr kl4wr krwr kfwr kxwr w0wr w1wr w2wr RLwr y1wr
            generalize w4.setCell ⟨X, 0, none⟩ (.slice xa1 (en + 1) cap4) = wy at *
            obtain ⟨xc1, hxc⟩ : ∃ q, q = cap4 := ⟨_, rfl⟩
            rw [<- hxc] at HOwy
            try rw [<- hxc]
            clear hxc
            have hzwy : X < wy.heap.size := HOwy.out.size
            have hbwy : Below w.heap.size w wy := HQb.out.trans (HOwy.out.below.mono (by omega))
            have kdwy : wy.cell? ⟨w.heap.size, 0, none⟩ = some (.slice a n c) := by rw [HOwy.out.below.cell (p := ⟨w.heap.size, 0, none⟩) (by show w.heap.size < X; omega)]; exact Hkd.out
            have kl0wy : wy.cell? ⟨w.heap.size + 1, 0, none⟩ = some (.int .i64 l.o) := by rw [HOwy.out.below.cell (p := ⟨w.heap.size + 1, 0, none⟩) (by show w.heap.size + 1 < X; omega)]; exact Hkl0.out
            have kl1wy : wy.cell? ⟨w.heap.size + 1, 1, none⟩ = some (.int .i64 l.s) := by rw [HOwy.out.below.cell (p := ⟨w.heap.size + 1, 1, none⟩) (by show w.heap.size + 1 < X; omega)]; exact Hkl1.out
            have kl2wy : wy.cell? ⟨w.heap.size + 1, 2, none⟩ = some (.int .i64 l.g) := by rw [HOwy.out.below.cell (p := ⟨w.heap.size + 1, 2, none⟩) (by show w.heap.size + 1 < X; omega)]; exact Hkl2.out
            have kl3wy : wy.cell? ⟨w.heap.size + 1, 3, none⟩ = some (.slice u1 l.K.length e1) := by rw [HOwy.out.below.cell (p := ⟨w.heap.size + 1, 3, none⟩) (by show w.heap.size + 1 < X; omega)]; exact Hkl3.out
            have kl4wy : wy.cell? ⟨w.heap.size + 1, 4, none⟩ = some (.slice u2 l.T.length e2) := by rw [HOwy.out.below.cell (p := ⟨w.heap.size + 1, 4, none⟩) (by show w.heap.size + 1 < X; omega)]; exact Hkl4.out
            have krwy : wy.cell? ⟨w.heap.size + 1 + 1, 0, none⟩ = some (.slice none 0 0) := by rw [HOwy.out.below.cell (p := ⟨w.heap.size + 1 + 1, 0, none⟩) (by show w.heap.size + 1 + 1 < X; omega)]; exact Hkr.out
            have kfwy : wy.frozen? ⟨w.heap.size + 1 + 1, 0, none⟩ = false := by rw [HOwy.out.below.frozen (p := ⟨w.heap.size + 1 + 1, 0, none⟩) (by show w.heap.size + 1 + 1 < X; omega)]; exact Hkf.out
            have kxwy : wy.cell? ⟨X, 0, none⟩ = some (.slice xa1 (en + 1) xc1) := HOwy.out.cell
            have w0wy : w.heap.size < wy.heap.size := by omega
            have w1wy : w.heap.size + 1 < wy.heap.size := by omega
            have w2wy : w.heap.size + 1 + 1 < wy.heap.size := by omega
            have RLwy : Hid (LRow wy lo2 hi2 (.slice u1 l.K.length e1) (.slice u2 l.T.length e2) l.K.length l.T.length (flat2 l.K) (flat l.T)) := Lib.hid (HLR.out.below hbwy hh2)
            have y1wy : hi2 <= wy.heap.size := by omega
            go_wp2_with fail
            go_meet
            exact ⟨_, _, Lib.hid ⟨HOwy.out, by rw [HMwy.out, HDP.out], by rw [HELwy.out]; omega⟩⟩
      case rest =>
        obtain ⟨rv9, E9, h9⟩ := hcut
        have HO9 : Hid (OutE q wc X rv9 E9) := Lib.hid h9.out.1
        have HM9 := Lib.hid h9.out.2.1
        have HL9 := Lib.hid h9.out.2.2
        clear h9 hzwr hbwr kdwr kl0wr kl1wr kl2wr kl3wr kl4wr krwr kfwr kxwr w0wr w1wr w2wr RLwr y1wr
        obtain ⟨xa9, xc9, hrv9⟩ := own_slice HO9.out.own
        obtain ⟨en9, hen9⟩ : ∃ m, m = E9.length := ⟨_, rfl⟩
        rw [<- hen9] at hrv9
        have HEL9 : Hid (E9.length = en9) := Lib.hid hen9.symm
        subst hrv9
        clear hen9 HO HE HELw Hb
        have hzwc : X < wc.heap.size := HO9.out.size
        have hbwc : Below w.heap.size w wc := HQb.out.trans (HO9.out.below.mono (by omega))
        have kdwc : wc.cell? ⟨w.heap.size, 0, none⟩ = some (.slice a n c) := by rw [HO9.out.below.cell (p := ⟨w.heap.size, 0, none⟩) (by show w.heap.size < X; omega)]; exact Hkd.out
        have kl0wc : wc.cell? ⟨w.heap.size + 1, 0, none⟩ = some (.int .i64 l.o) := by rw [HO9.out.below.cell (p := ⟨w.heap.size + 1, 0, none⟩) (by show w.heap.size + 1 < X; omega)]; exact Hkl0.out
        have kl1wc : wc.cell? ⟨w.heap.size + 1, 1, none⟩ = some (.int .i64 l.s) := by rw [HO9.out.below.cell (p := ⟨w.heap.size + 1, 1, none⟩) (by show w.heap.size + 1 < X; omega)]; exact Hkl1.out
        have kl2wc : wc.cell? ⟨w.heap.size + 1, 2, none⟩ = some (.int .i64 l.g) := by rw [HO9.out.below.cell (p := ⟨w.heap.size + 1, 2, none⟩) (by show w.heap.size + 1 < X; omega)]; exact Hkl2.out
        have kl3wc : wc.cell? ⟨w.heap.size + 1, 3, none⟩ = some (.slice u1 l.K.length e1) := by rw [HO9.out.below.cell (p := ⟨w.heap.size + 1, 3, none⟩) (by show w.heap.size + 1 < X; omega)]; exact Hkl3.out
        have kl4wc : wc.cell? ⟨w.heap.size + 1, 4, none⟩ = some (.slice u2 l.T.length e2) := by rw [HO9.out.below.cell (p := ⟨w.heap.size + 1, 4, none⟩) (by show w.heap.size + 1 < X; omega)]; exact Hkl4.out
        have krwc : wc.cell? ⟨w.heap.size + 1 + 1, 0, none⟩ = some (.slice none 0 0) := by rw [HO9.out.below.cell (p := ⟨w.heap.size + 1 + 1, 0, none⟩) (by show w.heap.size + 1 + 1 < X; omega)]; exact Hkr.out
        have kfwc : wc.frozen? ⟨w.heap.size + 1 + 1, 0, none⟩ = false := by rw [HO9.out.below.frozen (p := ⟨w.heap.size + 1 + 1, 0, none⟩) (by show w.heap.size + 1 + 1 < X; omega)]; exact Hkf.out
        have kxwc : wc.cell? ⟨X, 0, none⟩ = some (.slice xa9 en9 xc9) := HO9.out.cell
        have w0wc : w.heap.size < wc.heap.size := by omega
        have w1wc : w.heap.size + 1 < wc.heap.size := by omega
        have w2wc : w.heap.size + 1 + 1 < wc.heap.size := by omega
        have RLwc : Hid (LRow wc lo2 hi2 (.slice u1 l.K.length e1) (.slice u2 l.T.length e2) l.K.length l.T.length (flat2 l.K) (flat l.T)) := Lib.hid (HLR.out.below hbwc hh2)
        have y1wc : hi2 <= wc.heap.size := by omega
        have HZ : Hid (DRow wc (X + 1) wc.heap.size (.slice xa9 en9 xc9) (dput D l)) := Lib.hid (by have h := HO9.out.row_ (by have := HL9.out; omega); rw [HM9.out] at h; exact h)
        go_upto_region 24 with (fail)
        go_cut [5] (fun s wx => s = .int .i64 0 /\ wx = wc.setCell ⟨w.heap.size + 1 + 1, 0, none⟩ (.slice xa9 en9 xc9))
        case first =>
          go_wp2_with fail
          go_meet
          exact ⟨rfl, rfl⟩
        case rest =>
          obtain ⟨rfl, rfl⟩ := hcut
          have hres : (wc.setCell ⟨w.heap.size + 1 + 1, 0, none⟩ (.slice xa9 en9 xc9)).cell? ⟨w.heap.size + 1 + 1, 0, none⟩ = some (.slice xa9 en9 xc9) := World.cell?_setCell_same' _ _ _ (by rw [krwc]; rfl)
          rename_i Kx hKx
          refine hKx _ _ ?_
          refine wp_ret ?_
          show bodyPost Try.prog Try.f29 (fun e w' => SinsPost D l w e w') _ _ _
          refine bodyPost_ret (v := .tuple #[.agg #[.slice xa9 en9 xc9], .int .i64 0]) (by simp [results, Try.results29, go_sem, hres]) rfl (sinsP _ (by rw [HC.out]) ?_ ?_)
          · rw [inst_yes HC.out]; exact ((HZ.out.setCell (.inl (by simp <;> omega)) _).wide (by omega) (by simp [World.setCell] <;> omega))
          · exact (hbwc.setCell (by simp <;> omega) _)
end Go.Proofs.Ytfpafjdakipccaa
