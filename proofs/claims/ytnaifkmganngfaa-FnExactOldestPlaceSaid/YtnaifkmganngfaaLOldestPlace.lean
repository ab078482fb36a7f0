/- The law of OldestPlace over contracts. -/
import Derived.Test.YtnaifkmganngfaaKc
namespace Go.Proofs.Ytnaifkmganngfaa
open Go.RowKit


set_option maxRecDepth 100000 in
set_option maxHeartbeats 8000000 in
theorem lawExactOldestPlace_fit (s : Value) (t : Int) (n : Nat) (D : List (List Rw)) (w : World) (hA : TArg w s D) (hn : D.length = n) (hd : ttot D ≤ 1048576) (r : Int)
    (hs : ∀ (lo hi : Nat) (v : Value) (w : World), KRow w lo hi v n D → hi ≤ w.heap.size → Calls Try.prog 17 #[.agg #[v, .int .i64 t]] w fun e w' => e = .returned (.int .i64 r) ∧ Below w.heap.size w w')
    (hi : ∀ (lo hi : Nat) (v : Value) (w : World), KRow w lo hi v n D → hi ≤ w.heap.size → Calls Try.prog 16 #[.agg #[v, .int .i64 t]] w fun e w' => e = .returned (.int .i64 r) ∧ Below w.heap.size w w') :
    Calls Try.prog 10 #[.agg #[s, .int .i64 t]] w fun e w' => e = .returned (.bool true) ∧ Below w.heap.size w w' := by
  have HA := Lib.hid hA
  obtain ⟨ad, cp, e0⟩ := hA.slice
  rw [hn] at e0
  subst e0
  have hm := hA.1
  rw [hn] at hm
  have HN := Lib.hid hn
  have HDd := Lib.hid hd
  have Hs := Lib.hid hs
  have Hi := Lib.hid hi
  clear hA hs hi hn
  obtain ⟨z, hz⟩ : ∃ z : Int, z = 1048576 - (ttot D : Int) := ⟨_, rfl⟩
  have HZ := Lib.hid hz
  have hz0 : ¬ z < 0 := by omega
  have hrD : rtot D ≤ 1048576 := by unfold ttot at hd; omega
  clear hz hd
  go_enter Try.func10, Try.ntmps10
  go_wp2_with fail
  go_at_call 22
  refine (szArchive_fit ad n cp t D _ (HA.out.below (Below.trans (Below.refl _ _) (by go_grown))) HDd.out).mono ?_
  rw [← HZ.out]
  rintro e v1 ⟨rfl, hb1⟩
  have sz1 : w.heap.size + 1 ≤ v1.heap.size := by have hh := hb1.size; simp at hh; omega
  have st1 : Below w.heap.size w v1 := Below.trans (by go_grown) (hb1.mono (by simp))
  have c1_0 : v1.cell? ⟨w.heap.size, 0, none⟩ = some (.slice ad n cp) := by rw [(bcell hb1).1 _ _ (by simp)]; first | (rw [new_at (by simp)]; rfl) | simp
  have c1_1 : v1.cell? ⟨w.heap.size, 1, none⟩ = some (.int .i64 t) := by rw [(bcell hb1).1 _ _ (by simp)]; first | (rw [new_at (by simp)]; rfl) | simp
  have B1 : Hid (Below w.heap.size w v1) := st1
  have d1_0 : w.heap.size < v1.heap.size := by omega
  have e1_0 : w.heap.size ≠ v1.heap.size := by omega
  clear st1 hb1
  go_wp2_with fail
  go_at_call 23
  refine (toArchive_any _ t n D _ (HA.out.below B1.out) HDd.out HN.out).mono ?_
  rintro e v2 ⟨vW0, rfl, hr, hb2⟩
  have sz2 : v1.heap.size ≤ v2.heap.size := hb2.size
  have st2 : Below v1.heap.size v1 v2 := hb2
  have c2_0 : v2.cell? ⟨w.heap.size, 0, none⟩ = some (.slice ad n cp) := by rw [(bcell st2).1 _ _ (by omega)]; exact c1_0
  have c2_1 : v2.cell? ⟨w.heap.size, 1, none⟩ = some (.int .i64 t) := by rw [(bcell st2).1 _ _ (by omega)]; exact c1_1
  have B2 : Hid (Below w.heap.size w v2) := B1.out.trans (st2.mono (by omega))
  have R2_0 : Hid (KRow v2 (v1.heap.size) (v2.heap.size) vW0 n D) := hr
  have d2_0 : w.heap.size < v2.heap.size := by omega
  have e2_0 : w.heap.size ≠ v2.heap.size := by omega
  clear d1_0 e1_0 c1_0 c1_1 B1 st2 hr hb2
  obtain ⟨W0a, W0c, rfl⟩ := R2_0.out.slice
  go_wp2_with fail
  go_at_call 17
  refine (Hs.out _ _ _ _ R2_0.out (by first | omega | (simp; done) | (simp; omega) | fail)).mono ?_
  rintro e v3 ⟨rfl, hb3⟩
  have sz3 : v2.heap.size ≤ v3.heap.size := hb3.size
  have st3 : Below v2.heap.size v2 v3 := hb3
  have c3_0 : v3.cell? ⟨w.heap.size, 0, none⟩ = some (.slice ad n cp) := by rw [(bcell st3).1 _ _ (by omega)]; exact c2_0
  have c3_1 : v3.cell? ⟨w.heap.size, 1, none⟩ = some (.int .i64 t) := by rw [(bcell st3).1 _ _ (by omega)]; exact c2_1
  have B3 : Hid (Below w.heap.size w v3) := B2.out.trans (st3.mono (by omega))
  have R3_0 : Hid (KRow v3 (v1.heap.size) (v2.heap.size) (.slice W0a n W0c) n D) := R2_0.out.below st3 (by omega)
  have d3_0 : w.heap.size < v3.heap.size := by omega
  have e3_0 : w.heap.size ≠ v3.heap.size := by omega
  clear d2_0 e2_0 c2_0 c2_1 B2 st3 R2_0 hb3
  go_wp2_with fail
  go_at_call 23
  refine (toArchive_any _ t n D _ (HA.out.below B3.out) HDd.out HN.out).mono ?_
  rintro e v4 ⟨vX, rfl, hr, hb4⟩
  have sz4 : v3.heap.size ≤ v4.heap.size := hb4.size
  have st4 : Below v3.heap.size v3 v4 := hb4
  have c4_0 : v4.cell? ⟨w.heap.size, 0, none⟩ = some (.slice ad n cp) := by rw [(bcell st4).1 _ _ (by omega)]; exact c3_0
  have c4_1 : v4.cell? ⟨w.heap.size, 1, none⟩ = some (.int .i64 t) := by rw [(bcell st4).1 _ _ (by omega)]; exact c3_1
  have B4 : Hid (Below w.heap.size w v4) := B3.out.trans (st4.mono (by omega))
  have R4_0 : Hid (KRow v4 (v1.heap.size) (v2.heap.size) (.slice W0a n W0c) n D) := R3_0.out.below st4 (by omega)
  have R4_1 : Hid (KRow v4 (v3.heap.size) (v4.heap.size) vX n D) := hr
  have d4_0 : w.heap.size < v4.heap.size := by omega
  have e4_0 : w.heap.size ≠ v4.heap.size := by omega
  clear d3_0 e3_0 c3_0 c3_1 B3 st4 R3_0 hr hb4
  obtain ⟨Xa, Xc, rfl⟩ := R4_1.out.slice
  go_wp2_with fail
  go_at_call 16
  refine (Hi.out _ _ _ _ (R4_1.out.below (B := v4.heap.size) (by go_grown) (by omega)) (by first | omega | (simp; done) | (simp; omega) | fail)).mono ?_
  rintro e v5 ⟨rfl, hb5⟩
  have sz5 : v4.heap.size + 1 ≤ v5.heap.size := by have hh := hb5.size; simp at hh; omega
  have st5 : Below v4.heap.size v4 v5 := Below.trans (by go_grown) (hb5.mono (by simp))
  have c5_0 : v5.cell? ⟨w.heap.size, 0, none⟩ = some (.slice ad n cp) := by rw [(bcell st5).1 _ _ (by omega)]; exact c4_0
  have c5_1 : v5.cell? ⟨w.heap.size, 1, none⟩ = some (.int .i64 t) := by rw [(bcell st5).1 _ _ (by omega)]; exact c4_1
  have c5_2 : v5.cell? ⟨v4.heap.size, 0, none⟩ = some (.slice Xa n Xc) := by rw [(bcell hb5).1 _ _ (by simp)]; first | (rw [new_at (by simp)]; rfl) | simp
  have c5_3 : v5.cell? ⟨v4.heap.size, 1, none⟩ = some (.int .i64 t) := by rw [(bcell hb5).1 _ _ (by simp)]; first | (rw [new_at (by simp)]; rfl) | simp
  have B5 : Hid (Below w.heap.size w v5) := B4.out.trans (st5.mono (by omega))
  have R5_0 : Hid (KRow v5 (v1.heap.size) (v2.heap.size) (.slice W0a n W0c) n D) := R4_0.out.below st5 (by omega)
  have R5_1 : Hid (KRow v5 (v3.heap.size) (v4.heap.size) (.slice Xa n Xc) n D) := R4_1.out.below st5 (by omega)
  have d5_0 : w.heap.size < v5.heap.size := by omega
  have e5_0 : w.heap.size ≠ v5.heap.size := by omega
  have d5_1 : v4.heap.size < v5.heap.size := by omega
  have e5_1 : v4.heap.size ≠ v5.heap.size := by omega
  clear d4_0 e4_0 c4_0 c4_1 B4 st5 R4_0 R4_1 hb5
  go_upto_region 10 with fail
  go_region_held3 ((fun w' => w'.cell? ⟨w.heap.size, 0, none⟩ = some (.slice ad n cp) ∧ w'.cell? ⟨w.heap.size, 1, none⟩ = some (.int .i64 t) ∧ w'.cell? ⟨v4.heap.size, 0, none⟩ = some (.slice Xa n Xc) ∧ w'.cell? ⟨v4.heap.size, 1, none⟩ = some (.int .i64 t) ∧ v5.heap.size ≤ w'.heap.size ∧ Below v5.heap.size v5 w')) (first | assumption | exact rr4_start c5_0 c5_1 c5_2 c5_3 | exact rr4_drew (by assumption) | exact rr4_keep (by omega) (by omega) (by omega) (by omega) (by assumption) (by assumption) | fail)
    (first | (go_at_call 23; refine (toArchive_any _ t n D _ (HA.out.below (B5.out.trans ((rr4_out (by assumption)).2.mono (by omega)))) HDd.out HN.out).mono ?_; rintro e wy1 ⟨yv, rfl, ry, hb⟩) | (go_at_call 25; refine (eqArchive_same t D n _ _ _ _ _ _ _ (R5_1.out.below (rr4_out (by assumption)).2 (by omega)) ry (by have hq := (rr4_out (by assumption)).1; omega) (Nat.le_refl _)).mono ?_; rintro e wy2 ⟨rfl, hb⟩) | fail)
  have hbq : Below v5.heap.size v5 wy2 := (rr4_out (by assumption)).2
  clear ry
  have sz6 : v5.heap.size ≤ wy2.heap.size := hbq.size
  have st6 : Below v5.heap.size v5 wy2 := hbq
  have c6_0 : wy2.cell? ⟨w.heap.size, 0, none⟩ = some (.slice ad n cp) := by rw [(bcell st6).1 _ _ (by omega)]; exact c5_0
  have c6_1 : wy2.cell? ⟨w.heap.size, 1, none⟩ = some (.int .i64 t) := by rw [(bcell st6).1 _ _ (by omega)]; exact c5_1
  have c6_2 : wy2.cell? ⟨v4.heap.size, 0, none⟩ = some (.slice Xa n Xc) := by rw [(bcell st6).1 _ _ (by omega)]; exact c5_2
  have c6_3 : wy2.cell? ⟨v4.heap.size, 1, none⟩ = some (.int .i64 t) := by rw [(bcell st6).1 _ _ (by omega)]; exact c5_3
  have B6 : Hid (Below w.heap.size w wy2) := B5.out.trans (st6.mono (by omega))
  have R6_0 : Hid (KRow wy2 (v1.heap.size) (v2.heap.size) (.slice W0a n W0c) n D) := R5_0.out.below st6 (by omega)
  have R6_1 : Hid (KRow wy2 (v3.heap.size) (v4.heap.size) (.slice Xa n Xc) n D) := R5_1.out.below st6 (by omega)
  have d6_0 : w.heap.size < wy2.heap.size := by omega
  have e6_0 : w.heap.size ≠ wy2.heap.size := by omega
  have d6_1 : v4.heap.size < wy2.heap.size := by omega
  have e6_1 : v4.heap.size ≠ wy2.heap.size := by omega
  clear d5_0 e5_0 d5_1 e5_1 c5_0 c5_1 c5_2 c5_3 B5 st6 R5_0 R5_1 hbq
  go_wp2_with fail
  go_ret
  exact ⟨rfl, B6.out⟩

set_option maxRecDepth 100000 in
set_option maxHeartbeats 4000000 in
theorem lawExactOldestPlace_big (s : Value) (t : Int) (n : Nat) (D : List (List Rw)) (w : World) (hA : TArg w s D) (hn : D.length = n) (hd : 1048576 < ttot D) :
    Calls Try.prog 10 #[.agg #[s, .int .i64 t]] w fun e w' => e = .returned (.bool true) ∧ Below w.heap.size w w' := by
  obtain ⟨ad, cp, e0⟩ := hA.slice
  rw [hn] at e0
  subst e0
  have HA := Lib.hid hA
  have HDd := Lib.hid hd
  clear hA hd
  have hm : (-1 : Int) < 0 := by omega
  go_enter Try.func10, Try.ntmps10
  go_wp2_with fail
  go_at_call 22
  refine (szArchive_big ad n cp t D _ (HA.out.below (Below.trans (Below.refl _ _) (by go_grown))) HDd.out).mono ?_
  rintro e v1 ⟨rfl, hb1⟩
  have sz1 : w.heap.size + 1 ≤ v1.heap.size := by have hh := hb1.size; simp at hh; omega
  have st1 : Below w.heap.size w v1 := Below.trans (by go_grown) (hb1.mono (by simp))
  have c1_0 : v1.cell? ⟨w.heap.size, 0, none⟩ = some (.slice ad n cp) := by rw [(bcell hb1).1 _ _ (by simp)]; first | (rw [new_at (by simp)]; rfl) | simp
  have c1_1 : v1.cell? ⟨w.heap.size, 1, none⟩ = some (.int .i64 t) := by rw [(bcell hb1).1 _ _ (by simp)]; first | (rw [new_at (by simp)]; rfl) | simp
  have B1 : Hid (Below w.heap.size w v1) := st1
  have d1_0 : w.heap.size < v1.heap.size := by omega
  have e1_0 : w.heap.size ≠ v1.heap.size := by omega
  clear st1 hb1
  go_wp2_with fail
  go_ret
  exact ⟨rfl, B1.out⟩

end Go.Proofs.Ytnaifkmganngfaa
