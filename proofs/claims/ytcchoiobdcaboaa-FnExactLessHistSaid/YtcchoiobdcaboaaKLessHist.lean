/- The law of LessHist, arguments too great. -/
import Derived.Test.YtcchoiobdcaboaaGh
namespace Go.Proofs.Ytcchoiobdcaboaa
open Go.RowKit


set_option maxRecDepth 100000 in
set_option maxHeartbeats 4000000 in
theorem lawExactLessHist_big (s0 s1 : Value) (ta tb : Int) (na nb : Nat) (DA DB : List Int) (w : World) (hA : TArg w s0 DA) (hB : TArg w s1 DB) (hna : DA.length = na) (hnb : DB.length = nb) (hd : 1048576 < DA.length) :
    Calls Try.prog 13 #[.agg #[s0, .int .i64 ta], .agg #[s1, .int .i64 tb]] w fun e w' => e = .returned (.bool true) ∧ Below w.heap.size w w' := by
  have HA := Lib.hid hA
  have HB := Lib.hid hB
  obtain ⟨aa, ca, e0⟩ := hA.slice
  rw [hna] at e0
  subst e0
  obtain ⟨ab, cb, e0⟩ := hB.slice
  rw [hnb] at e0
  subst e0
  have hm1 : (-1 : Int) < 0 := by omega
  have HD := Lib.hid hd
  clear hd
  clear hA hB hna hnb
  go_enter Try.func13, Try.ntmps13
  go_wp2_with fail
  go_at_call 29
  refine (szHist_over aa na ca 1048576 ta DA _ (HA.out.below (Below.trans (Below.refl _ _) (by go_grown))) (by omega) (by have := HD.out; omega) (by omega)).mono ?_
  rintro e v1 ⟨rfl, hb1⟩
  have sz1 : w.heap.size + 2 ≤ v1.heap.size := by have hh := hb1.size; simp at hh; omega
  have st1 : Below w.heap.size w v1 := Below.trans (by go_grown) (hb1.mono (by simp <;> omega))
  have c1_0 : v1.cell? ⟨w.heap.size, 0, none⟩ = some (.slice aa na ca) := by rw [(bcell hb1).1 _ _ (by simp <;> omega), old_box (by simp <;> omega)]; first | (rw [new_at (by simp)]; rfl) | simp
  have c1_1 : v1.cell? ⟨w.heap.size, 1, none⟩ = some (.int .i64 ta) := by rw [(bcell hb1).1 _ _ (by simp <;> omega), old_box (by simp <;> omega)]; first | (rw [new_at (by simp)]; rfl) | simp
  have c1_2 : v1.cell? ⟨w.heap.size + 1, 0, none⟩ = some (.slice ab nb cb) := by rw [(bcell hb1).1 _ _ (by simp)]; first | (rw [new_at (by simp)]; rfl) | simp
  have c1_3 : v1.cell? ⟨w.heap.size + 1, 1, none⟩ = some (.int .i64 tb) := by rw [(bcell hb1).1 _ _ (by simp)]; first | (rw [new_at (by simp)]; rfl) | simp
  have B1 : Hid (Below w.heap.size w v1) := st1
  have d1_0 : w.heap.size < v1.heap.size := by omega
  have e1_0 : w.heap.size ≠ v1.heap.size := by omega
  have d1_1 : w.heap.size + 1 < v1.heap.size := by omega
  have e1_1 : w.heap.size + 1 ≠ v1.heap.size := by omega
  clear st1 hb1
  go_wp2_with fail
  go_ret
  exact ⟨rfl, B1.out⟩

set_option maxRecDepth 100000 in
set_option maxHeartbeats 4000000 in
theorem lawExactLessHist_over (s0 s1 : Value) (ta tb : Int) (na nb : Nat) (DA DB : List Int) (w : World) (hA : TArg w s0 DA) (hB : TArg w s1 DB) (hna : DA.length = na) (hnb : DB.length = nb) (hd0 : DA.length ≤ 1048576) (hd : 1048576 < DA.length + DB.length) :
    Calls Try.prog 13 #[.agg #[s0, .int .i64 ta], .agg #[s1, .int .i64 tb]] w fun e w' => e = .returned (.bool true) ∧ Below w.heap.size w w' := by
  have HA := Lib.hid hA
  have HB := Lib.hid hB
  obtain ⟨aa, ca, e0⟩ := hA.slice
  rw [hna] at e0
  subst e0
  obtain ⟨ab, cb, e0⟩ := hB.slice
  rw [hnb] at e0
  subst e0
  have hm1 : (-1 : Int) < 0 := by omega
  obtain ⟨z1, hz1⟩ : ∃ z : Int, z = 1048576 - (DA.length : Int) := ⟨_, rfl⟩
  have HZ1 := Lib.hid hz1
  have HZ3 : Hid (0 ≤ z1 ∧ z1 < (DB.length : Int) ∧ z1 ≤ 1048576) := Lib.hid (by omega)
  have HD0 := Lib.hid hd0
  have hz10 : ¬ z1 < 0 := by omega
  clear hz1 hd0 hd
  clear hA hB hna hnb
  go_enter Try.func13, Try.ntmps13
  go_wp2_with fail
  go_at_call 29
  refine (szHist_at aa na ca 1048576 ta DA _ (HA.out.below (Below.trans (Below.refl _ _) (by go_grown))) (by have := HD0.out; omega) (by omega)).mono ?_
  rw [← HZ1.out]
  rintro e v1 ⟨rfl, hb1⟩
  have sz1 : w.heap.size + 2 ≤ v1.heap.size := by have hh := hb1.size; simp at hh; omega
  have st1 : Below w.heap.size w v1 := Below.trans (by go_grown) (hb1.mono (by simp <;> omega))
  have c1_0 : v1.cell? ⟨w.heap.size, 0, none⟩ = some (.slice aa na ca) := by rw [(bcell hb1).1 _ _ (by simp <;> omega), old_box (by simp <;> omega)]; first | (rw [new_at (by simp)]; rfl) | simp
  have c1_1 : v1.cell? ⟨w.heap.size, 1, none⟩ = some (.int .i64 ta) := by rw [(bcell hb1).1 _ _ (by simp <;> omega), old_box (by simp <;> omega)]; first | (rw [new_at (by simp)]; rfl) | simp
  have c1_2 : v1.cell? ⟨w.heap.size + 1, 0, none⟩ = some (.slice ab nb cb) := by rw [(bcell hb1).1 _ _ (by simp)]; first | (rw [new_at (by simp)]; rfl) | simp
  have c1_3 : v1.cell? ⟨w.heap.size + 1, 1, none⟩ = some (.int .i64 tb) := by rw [(bcell hb1).1 _ _ (by simp)]; first | (rw [new_at (by simp)]; rfl) | simp
  have B1 : Hid (Below w.heap.size w v1) := st1
  have d1_0 : w.heap.size < v1.heap.size := by omega
  have e1_0 : w.heap.size ≠ v1.heap.size := by omega
  have d1_1 : w.heap.size + 1 < v1.heap.size := by omega
  have e1_1 : w.heap.size + 1 ≠ v1.heap.size := by omega
  clear st1 hb1
  go_wp2_with fail
  go_at_call 29
  refine (szHist_over ab nb cb z1 tb DB _ (HB.out.below B1.out) HZ3.out.1 HZ3.out.2.1 HZ3.out.2.2).mono ?_
  rintro e v2 ⟨rfl, hb2⟩
  have sz2 : v1.heap.size ≤ v2.heap.size := hb2.size
  have st2 : Below v1.heap.size v1 v2 := hb2
  have c2_0 : v2.cell? ⟨w.heap.size, 0, none⟩ = some (.slice aa na ca) := by rw [(bcell st2).1 _ _ (by omega)]; exact c1_0
  have c2_1 : v2.cell? ⟨w.heap.size, 1, none⟩ = some (.int .i64 ta) := by rw [(bcell st2).1 _ _ (by omega)]; exact c1_1
  have c2_2 : v2.cell? ⟨w.heap.size + 1, 0, none⟩ = some (.slice ab nb cb) := by rw [(bcell st2).1 _ _ (by omega)]; exact c1_2
  have c2_3 : v2.cell? ⟨w.heap.size + 1, 1, none⟩ = some (.int .i64 tb) := by rw [(bcell st2).1 _ _ (by omega)]; exact c1_3
  have B2 : Hid (Below w.heap.size w v2) := B1.out.trans (st2.mono (by omega))
  have d2_0 : w.heap.size < v2.heap.size := by omega
  have e2_0 : w.heap.size ≠ v2.heap.size := by omega
  have d2_1 : w.heap.size + 1 < v2.heap.size := by omega
  have e2_1 : w.heap.size + 1 ≠ v2.heap.size := by omega
  clear d1_0 e1_0 d1_1 e1_1 c1_0 c1_1 c1_2 c1_3 B1 st2 hb2
  go_wp2_with fail
  go_ret
  exact ⟨rfl, B2.out⟩

end Go.Proofs.Ytcchoiobdcaboaa
