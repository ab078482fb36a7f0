/- The helpers of the law at networks without edges, advertisements and messages. -/
import Derived.Test.YtkkfgnnhdcmmjabNx
namespace Go.Proofs.Ytkkfgnnhdcmmjab
open Go.RowKit


set_option maxRecDepth 100000 in
set_option maxHeartbeats 2000000 in
theorem eqNet_0 (x : Int) (a a' : Option Addr) (n c c' : Nat) (w : World) (hn : n ≤ 6) (h : N0 w a n) (h' : N0 w a' n) : Calls Try.prog 28 #[.agg #[.int .i64 x, .slice none 0 0, .slice a n c, .slice none 0 0, .int .i64 0], .agg #[.int .i64 x, .slice none 0 0, .slice a' n c', .slice none 0 0, .int .i64 0]] w fun e w' => e = .returned (.bool true) ∧ Below w.heap.size w w' := by
  have H := Lib.hid h
  have H' := Lib.hid h'
  clear h h'
  go_enter Try.func28, Try.ntmps28
  go_wp2_with fail
  go_at_call 13
  refine (eqGraph_0 x _).mono ?_
  rintro e v1 ⟨rfl, hb1⟩
  have st1 : Below w.heap.size w v1 := Below.trans (by go_grown) (hb1.mono (by simp; omega))
  have c0_0 : v1.cell? ⟨w.heap.size, 0, none⟩ = some (.int .i64 x) := by rw [hb1.cell (p := ⟨w.heap.size, 0, none⟩) (by simp <;> omega)]; rw [old_box (by simp)]; simp
  have c0_1 : v1.cell? ⟨w.heap.size, 1, none⟩ = some (.slice none 0 0) := by rw [hb1.cell (p := ⟨w.heap.size, 1, none⟩) (by simp <;> omega)]; rw [old_box (by simp)]; simp
  have c0_2 : v1.cell? ⟨w.heap.size, 2, none⟩ = some (.slice a n c) := by rw [hb1.cell (p := ⟨w.heap.size, 2, none⟩) (by simp <;> omega)]; rw [old_box (by simp)]; simp
  have c0_3 : v1.cell? ⟨w.heap.size, 3, none⟩ = some (.slice none 0 0) := by rw [hb1.cell (p := ⟨w.heap.size, 3, none⟩) (by simp <;> omega)]; rw [old_box (by simp)]; simp
  have c0_4 : v1.cell? ⟨w.heap.size, 4, none⟩ = some (.int .i64 0) := by rw [hb1.cell (p := ⟨w.heap.size, 4, none⟩) (by simp <;> omega)]; rw [old_box (by simp)]; simp
  have c1_0 : v1.cell? ⟨w.heap.size + 1, 0, none⟩ = some (.int .i64 x) := by rw [hb1.cell (p := ⟨w.heap.size + 1, 0, none⟩) (by simp <;> omega)]; simp
  have c1_1 : v1.cell? ⟨w.heap.size + 1, 1, none⟩ = some (.slice none 0 0) := by rw [hb1.cell (p := ⟨w.heap.size + 1, 1, none⟩) (by simp <;> omega)]; simp
  have c1_2 : v1.cell? ⟨w.heap.size + 1, 2, none⟩ = some (.slice a' n c') := by rw [hb1.cell (p := ⟨w.heap.size + 1, 2, none⟩) (by simp <;> omega)]; simp
  have c1_3 : v1.cell? ⟨w.heap.size + 1, 3, none⟩ = some (.slice none 0 0) := by rw [hb1.cell (p := ⟨w.heap.size + 1, 3, none⟩) (by simp <;> omega)]; simp
  have c1_4 : v1.cell? ⟨w.heap.size + 1, 4, none⟩ = some (.int .i64 0) := by rw [hb1.cell (p := ⟨w.heap.size + 1, 4, none⟩) (by simp <;> omega)]; simp
  have hs1 : w.heap.size + 2 ≤ v1.heap.size := by have hh := hb1.size; simp at hh; omega
  have HB1 := Lib.hid st1
  have N1 := Lib.hid (H.out.below st1)
  have N1' := Lib.hid (H'.out.below st1)
  clear st1 hb1
  go_wp2_with fail
  go_at_call 48
  refine (eqDbS_0 a a' n c c' _ hn N1.out N1'.out).mono ?_
  rintro e v2 ⟨rfl, hb2⟩
  have d0_0 : v2.cell? ⟨w.heap.size, 0, none⟩ = some (.int .i64 x) := by rw [hb2.cell (p := ⟨w.heap.size, 0, none⟩) (by show w.heap.size < _; omega)]; exact c0_0
  have d0_1 : v2.cell? ⟨w.heap.size, 1, none⟩ = some (.slice none 0 0) := by rw [hb2.cell (p := ⟨w.heap.size, 1, none⟩) (by show w.heap.size < _; omega)]; exact c0_1
  have d0_2 : v2.cell? ⟨w.heap.size, 2, none⟩ = some (.slice a n c) := by rw [hb2.cell (p := ⟨w.heap.size, 2, none⟩) (by show w.heap.size < _; omega)]; exact c0_2
  have d0_3 : v2.cell? ⟨w.heap.size, 3, none⟩ = some (.slice none 0 0) := by rw [hb2.cell (p := ⟨w.heap.size, 3, none⟩) (by show w.heap.size < _; omega)]; exact c0_3
  have d0_4 : v2.cell? ⟨w.heap.size, 4, none⟩ = some (.int .i64 0) := by rw [hb2.cell (p := ⟨w.heap.size, 4, none⟩) (by show w.heap.size < _; omega)]; exact c0_4
  have d1_0 : v2.cell? ⟨w.heap.size + 1, 0, none⟩ = some (.int .i64 x) := by rw [hb2.cell (p := ⟨w.heap.size + 1, 0, none⟩) (by show w.heap.size + 1 < _; omega)]; exact c1_0
  have d1_1 : v2.cell? ⟨w.heap.size + 1, 1, none⟩ = some (.slice none 0 0) := by rw [hb2.cell (p := ⟨w.heap.size + 1, 1, none⟩) (by show w.heap.size + 1 < _; omega)]; exact c1_1
  have d1_2 : v2.cell? ⟨w.heap.size + 1, 2, none⟩ = some (.slice a' n c') := by rw [hb2.cell (p := ⟨w.heap.size + 1, 2, none⟩) (by show w.heap.size + 1 < _; omega)]; exact c1_2
  have d1_3 : v2.cell? ⟨w.heap.size + 1, 3, none⟩ = some (.slice none 0 0) := by rw [hb2.cell (p := ⟨w.heap.size + 1, 3, none⟩) (by show w.heap.size + 1 < _; omega)]; exact c1_3
  have d1_4 : v2.cell? ⟨w.heap.size + 1, 4, none⟩ = some (.int .i64 0) := by rw [hb2.cell (p := ⟨w.heap.size + 1, 4, none⟩) (by show w.heap.size + 1 < _; omega)]; exact c1_4
  have HB2 := Lib.hid (HB1.out.trans (hb2.mono (by omega)))
  clear hb2 c0_0 c0_1 c0_2 c0_3 c0_4 c1_0 c1_1 c1_2 c1_3 c1_4
  go_wp2_with fail
  go_at_call 49
  refine (eqMsgS_0 _).mono ?_
  rintro e w' ⟨rfl, rfl⟩
  go_wp2_with fail
  go_ret
  exact ⟨rfl, HB2.out⟩

set_option maxRecDepth 100000 in
set_option maxHeartbeats 2000000 in
theorem markNet_0 (x : Int) (a : Option Addr) (n c : Nat) (w : World) (hn : n ≤ 6) (h : N0 w a n) : Calls Try.prog 29 #[.agg #[.int .i64 x, .slice none 0 0, .slice a n c, .slice none 0 0, .int .i64 0], .int .i64 1] w fun e w' => e = .returned (.int .i64 1) ∧ Below w.heap.size w w' := by
  have H := Lib.hid h
  clear h
  go_enter Try.func29, Try.ntmps29
  go_wp2_with fail
  go_at_call 22
  refine (markGraph_0 x _).mono ?_
  rintro e v1 ⟨rfl, hb1⟩
  have st1 : Below w.heap.size w v1 := Below.trans (by go_grown) (hb1.mono (by simp))
  have c0_0 : v1.cell? ⟨w.heap.size, 0, none⟩ = some (.int .i64 x) := by rw [hb1.cell (p := ⟨w.heap.size, 0, none⟩) (by simp)]; simp
  have c0_1 : v1.cell? ⟨w.heap.size, 1, none⟩ = some (.slice none 0 0) := by rw [hb1.cell (p := ⟨w.heap.size, 1, none⟩) (by simp)]; simp
  have c0_2 : v1.cell? ⟨w.heap.size, 2, none⟩ = some (.slice a n c) := by rw [hb1.cell (p := ⟨w.heap.size, 2, none⟩) (by simp)]; simp
  have c0_3 : v1.cell? ⟨w.heap.size, 3, none⟩ = some (.slice none 0 0) := by rw [hb1.cell (p := ⟨w.heap.size, 3, none⟩) (by simp)]; simp
  have c0_4 : v1.cell? ⟨w.heap.size, 4, none⟩ = some (.int .i64 0) := by rw [hb1.cell (p := ⟨w.heap.size, 4, none⟩) (by simp)]; simp
  have HB1 := Lib.hid st1
  have N1 := Lib.hid (H.out.below st1)
  clear st1 hb1
  go_wp2_with fail
  go_at_call 50
  refine (markDbS_0 a n c _ hn N1.out).mono ?_
  rintro e w' ⟨rfl, rfl⟩
  go_wp2_with fail
  go_at_call 51
  refine (markMsgS_0 _).mono ?_
  rintro e w' ⟨rfl, rfl⟩
  go_wp2_with fail
  go_ret
  exact ⟨rfl, HB1.out⟩

set_option maxRecDepth 100000 in
set_option maxHeartbeats 2000000 in
theorem heldNet_0 (x : Int) (a : Option Addr) (n c : Nat) (w : World) (hn : n ≤ 6) (h : N0 w a n) : Calls Try.prog 30 #[.agg #[.int .i64 x, .slice none 0 0, .slice a n c, .slice none 0 0, .int .i64 0], .int .i64 1] w fun e w' => e = .returned (.int .i64 1) ∧ Below w.heap.size w w' := by
  have H := Lib.hid h
  clear h
  go_enter Try.func30, Try.ntmps30
  go_wp2_with fail
  go_at_call 23
  refine (heldGraph_0 x _).mono ?_
  rintro e v1 ⟨rfl, hb1⟩
  have st1 : Below w.heap.size w v1 := Below.trans (by go_grown) (hb1.mono (by simp))
  have c0_0 : v1.cell? ⟨w.heap.size, 0, none⟩ = some (.int .i64 x) := by rw [hb1.cell (p := ⟨w.heap.size, 0, none⟩) (by simp)]; simp
  have c0_1 : v1.cell? ⟨w.heap.size, 1, none⟩ = some (.slice none 0 0) := by rw [hb1.cell (p := ⟨w.heap.size, 1, none⟩) (by simp)]; simp
  have c0_2 : v1.cell? ⟨w.heap.size, 2, none⟩ = some (.slice a n c) := by rw [hb1.cell (p := ⟨w.heap.size, 2, none⟩) (by simp)]; simp
  have c0_3 : v1.cell? ⟨w.heap.size, 3, none⟩ = some (.slice none 0 0) := by rw [hb1.cell (p := ⟨w.heap.size, 3, none⟩) (by simp)]; simp
  have c0_4 : v1.cell? ⟨w.heap.size, 4, none⟩ = some (.int .i64 0) := by rw [hb1.cell (p := ⟨w.heap.size, 4, none⟩) (by simp)]; simp
  have HB1 := Lib.hid st1
  have N1 := Lib.hid (H.out.below st1)
  clear st1 hb1
  go_wp2_with fail
  go_at_call 52
  refine (heldDbS_0 a n c _ hn N1.out).mono ?_
  rintro e w' ⟨rfl, rfl⟩
  go_wp2_with fail
  go_at_call 53
  refine (heldMsgS_0 _).mono ?_
  rintro e w' ⟨rfl, rfl⟩
  go_wp2_with fail
  go_ret
  exact ⟨rfl, HB1.out⟩

end Go.Proofs.Ytkkfgnnhdcmmjab
