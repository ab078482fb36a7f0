/- NewNet of both. -/
import Derived.Test.YtkkfgnnhdcmmjabNw
namespace Go.Proofs.Ytkkfgnnhdcmmjab
open Go.RowKit


/-- What NewNet answers. -/
def NwPost (x : Int) (n : Nat) (ok : Bool) (w : World) (e : Ending) (w' : World) : Prop := ∃ a c, e = .returned (.tuple #[.agg #[.int .i64 x, .slice none 0 0, .slice a n c, .slice none 0 0, .int .i64 0], .bool ok]) ∧ N0 w' a n ∧ Below w.heap.size w w'
theorem newFz {w : World} {o : Nat} {cs : Array Value} {t : TypeId} : (w.alloc (.cells cs t)).frozen? ⟨w.heap.size, o, none⟩ = false := frozen_of_row _ _ _ _ _ (heap_alloc_new _ _)
theorem five {w : World} {R : Nat} {u0 u1 u2 u3 u4 v0 v1 v2 v3 v4 : Value} (h0 : w.cell? ⟨R, 0, none⟩ = some u0) (h1 : w.cell? ⟨R, 1, none⟩ = some u1) (h2 : w.cell? ⟨R, 2, none⟩ = some u2) (h3 : w.cell? ⟨R, 3, none⟩ = some u3) (h4 : w.cell? ⟨R, 4, none⟩ = some u4) : (((((w.setCell ⟨R, 0, none⟩ v0).setCell ⟨R, 1, none⟩ v1).setCell ⟨R, 2, none⟩ v2).setCell ⟨R, 3, none⟩ v3).setCell ⟨R, 4, none⟩ v4).cell? ⟨R, 0, none⟩ = some v0 ∧ (((((w.setCell ⟨R, 0, none⟩ v0).setCell ⟨R, 1, none⟩ v1).setCell ⟨R, 2, none⟩ v2).setCell ⟨R, 3, none⟩ v3).setCell ⟨R, 4, none⟩ v4).cell? ⟨R, 1, none⟩ = some v1 ∧ (((((w.setCell ⟨R, 0, none⟩ v0).setCell ⟨R, 1, none⟩ v1).setCell ⟨R, 2, none⟩ v2).setCell ⟨R, 3, none⟩ v3).setCell ⟨R, 4, none⟩ v4).cell? ⟨R, 2, none⟩ = some v2 ∧ (((((w.setCell ⟨R, 0, none⟩ v0).setCell ⟨R, 1, none⟩ v1).setCell ⟨R, 2, none⟩ v2).setCell ⟨R, 3, none⟩ v3).setCell ⟨R, 4, none⟩ v4).cell? ⟨R, 3, none⟩ = some v3 ∧ (((((w.setCell ⟨R, 0, none⟩ v0).setCell ⟨R, 1, none⟩ v1).setCell ⟨R, 2, none⟩ v2).setCell ⟨R, 3, none⟩ v3).setCell ⟨R, 4, none⟩ v4).cell? ⟨R, 4, none⟩ = some v4 := by
  refine ⟨?_, ?_, ?_, ?_, ?_⟩
  · rw [World.cell?_setCell_other _ _ _ _ (by simp), World.cell?_setCell_other _ _ _ _ (by simp), World.cell?_setCell_other _ _ _ _ (by simp), World.cell?_setCell_other _ _ _ _ (by simp)]; exact World.cell?_setCell_same' _ _ _ (by rw [h0]; rfl)
  · rw [World.cell?_setCell_other _ _ _ _ (by simp), World.cell?_setCell_other _ _ _ _ (by simp), World.cell?_setCell_other _ _ _ _ (by simp)]; exact World.cell?_setCell_same' _ _ _ (by rw [World.cell?_setCell_other _ _ _ _ (by simp), h1]; rfl)
  · rw [World.cell?_setCell_other _ _ _ _ (by simp), World.cell?_setCell_other _ _ _ _ (by simp)]; exact World.cell?_setCell_same' _ _ _ (by rw [World.cell?_setCell_other _ _ _ _ (by simp), World.cell?_setCell_other _ _ _ _ (by simp), h2]; rfl)
  · rw [World.cell?_setCell_other _ _ _ _ (by simp)]; exact World.cell?_setCell_same' _ _ _ (by rw [World.cell?_setCell_other _ _ _ _ (by simp), World.cell?_setCell_other _ _ _ _ (by simp), World.cell?_setCell_other _ _ _ _ (by simp), h3]; rfl)
  · exact World.cell?_setCell_same' _ _ _ (by rw [World.cell?_setCell_other _ _ _ _ (by simp), World.cell?_setCell_other _ _ _ _ (by simp), World.cell?_setCell_other _ _ _ _ (by simp), World.cell?_setCell_other _ _ _ _ (by simp), h4]; rfl)
theorem below_gr {w w2 : World} (k : w.grownBy w2 none) : Below w.heap.size w w2 := ⟨k.os, k.tape, k.output, k.size, fun j hj => k.block j hj (by simp)⟩
theorem Try.info83 : (Try.prog.info? 83).map (fun i => (i.zero, i.size, i.bytes)) = some (some (.agg #[.slice none 0 0]), 1, 24) := by kernel_rfl

set_option maxHeartbeats 1000000 in
theorem nin_any (x a b : Int) (w : World) : Calls Try.prog 32 #[.int .i64 x, .int .i64 a, .int .i64 b] w fun e w' => e = .returned (.bool (decide (a ≤ x) && decide (x ≤ b))) ∧ w = w' := by
  by_cases h1 : a ≤ x
  · rw [decide_eq_true h1, Bool.true_and]
    go_enter Try.func32, Try.ntmps32
    go_wp2
    go_ret
    exact ⟨rfl, rfl⟩
  · rw [decide_eq_false h1, Bool.false_and]
    have h2 : decide (a ≤ x) = false := decide_eq_false h1
    go_enter Try.func32, Try.ntmps32
    go_wp2
    go_ret
    exact ⟨rfl, rfl⟩

set_option maxRecDepth 100000 in
set_option maxHeartbeats 2000000 in
theorem inet_yes (n : Nat) (w : World) (h1 : 1 ≤ n) (h2 : n ≤ 6) : Calls Try.prog 27 #[.int .i64 (n : Int)] w (NwPost (n : Int) n true w) := by
  obtain ⟨iD, hi, hz0, hz1, hz2⟩ := info_parts Try.info83
  have q3 : ¬ ((n : Int) < 0) := by omega
  have q1 : ¬ ((n : Int) < 1) := by omega
  have q2 : ¬ (6 < (n : Int)) := by omega
  go_enter Try.func27, Try.ntmps27
  go_wp2_with (at_make; refine wpList_make_full _ rfl _ _ 44 rfl w.heap.size 83 iD (.agg #[.slice none 0 0]) 1 Try.underlying44 hi hz0 hz1 .i64 .i64 _ _ n rfl rfl rfl rfl ?b2 ?b3 ?b4 ?_)
  case b2 => omega
  case b3 => unfold maxLen; omega
  intro w1 hown hgr
  have hb1 := below_gr hgr
  have c0 : w1.cell? ⟨w.heap.size, 0, none⟩ = some (.int .i64 0) := by rw [hb1.cell (p := ⟨w.heap.size, 0, none⟩) (by simp)]; simp
  have f0 : w1.frozen? ⟨w.heap.size, 0, none⟩ = false := by rw [hb1.frozen (p := ⟨w.heap.size, 0, none⟩) (by simp), newFz]
  have c1 : w1.cell? ⟨w.heap.size, 1, none⟩ = some (.slice none 0 0) := by rw [hb1.cell (p := ⟨w.heap.size, 1, none⟩) (by simp)]; simp
  have f1 : w1.frozen? ⟨w.heap.size, 1, none⟩ = false := by rw [hb1.frozen (p := ⟨w.heap.size, 1, none⟩) (by simp), newFz]
  have c2 : w1.cell? ⟨w.heap.size, 2, none⟩ = some (.slice none 0 0) := by rw [hb1.cell (p := ⟨w.heap.size, 2, none⟩) (by simp)]; simp
  have f2 : w1.frozen? ⟨w.heap.size, 2, none⟩ = false := by rw [hb1.frozen (p := ⟨w.heap.size, 2, none⟩) (by simp), newFz]
  have c3 : w1.cell? ⟨w.heap.size, 3, none⟩ = some (.slice none 0 0) := by rw [hb1.cell (p := ⟨w.heap.size, 3, none⟩) (by simp)]; simp
  have f3 : w1.frozen? ⟨w.heap.size, 3, none⟩ = false := by rw [hb1.frozen (p := ⟨w.heap.size, 3, none⟩) (by simp), newFz]
  have c4 : w1.cell? ⟨w.heap.size, 4, none⟩ = some (.int .i64 0) := by rw [hb1.cell (p := ⟨w.heap.size, 4, none⟩) (by simp)]; simp
  have f4 : w1.frozen? ⟨w.heap.size, 4, none⟩ = false := by rw [hb1.frozen (p := ⟨w.heap.size, 4, none⟩) (by simp), newFz]
  have Hown := Lib.hid hown
  have Hb1 := Lib.hid hb1
  clear hown hgr hb1
  go_wp2_with fail
  obtain ⟨r0, r1, r2, r3, r4⟩ := five (v0 := .int .i64 (n : Int)) (v1 := .slice none 0 0) (v2 := .slice (some ⟨w.heap.size + 1, 0, none⟩) n n) (v3 := .slice none 0 0) (v4 := .int .i64 0) c0 c1 c2 c3 c4
  refine bodyPost_ret (v := .tuple #[.agg #[.int .i64 (n : Int), .slice none 0 0, .slice (some ⟨w.heap.size + 1, 0, none⟩) n n, .slice none 0 0, .int .i64 0], .bool true]) (by simp [results, Try.results27, go_sem, r0, r1, r2, r3, r4]) rfl ⟨_, _, rfl, fun _ => ⟨w.heap.size + 1, rfl, ?_, fun j hj => ?_⟩, ?_⟩
  · have := (Hown.out.lt _ rfl).2
    simpa [World.setCell] using this
  · rw [World.cell?_setCell_other _ _ _ _ (by simp), World.cell?_setCell_other _ _ _ _ (by simp), World.cell?_setCell_other _ _ _ _ (by simp), World.cell?_setCell_other _ _ _ _ (by simp), World.cell?_setCell_other _ _ _ _ (by simp), Hown.out.cellAt _ (by omega), toList_madeCells_one]
    simp [hj]
  · have hb : Below w.heap.size w w1 := Below.trans ((Below.refl _ _).alloc (Nat.le_refl _) _) (Hb1.out.mono (by simp))
    exact ((((hb.setCell (Nat.le_refl _) _).setCell (Nat.le_refl _) _).setCell (Nat.le_refl _) _).setCell (Nat.le_refl _) _).setCell (Nat.le_refl _) _

set_option maxRecDepth 100000 in
set_option maxHeartbeats 2000000 in
theorem snet_yes (n : Nat) (w : World) (h1 : 1 ≤ n) (h2 : n ≤ 6) : Calls Try.prog 26 #[.int .i64 (n : Int)] w (NwPost (n : Int) n true w) := by
  obtain ⟨iD, hi, hz0, hz1, hz2⟩ := info_parts Try.info83
  have q3 : ¬ ((n : Int) < 0) := by omega
  have hin : (decide ((1 : Int) ≤ (n : Int)) && decide ((n : Int) ≤ 6)) = true := by rw [decide_eq_true (by omega), decide_eq_true (by omega)]; rfl
  go_enter Try.func26, Try.ntmps26
  go_wp2_with fail
  go_at_call 32
  refine (nin_any _ 1 6 _).mono ?_
  rw [hin]
  rintro e w' ⟨rfl, rfl⟩
  go_wp2_with (at_make; refine wpList_make_full _ rfl _ _ 44 rfl w.heap.size 83 iD (.agg #[.slice none 0 0]) 1 Try.underlying44 hi hz0 hz1 .i64 .i64 _ _ n rfl rfl rfl rfl ?b2 ?b3 ?b4 ?_)
  case b2 => rw [hz2]; omega
  case b3 => unfold maxLen; omega
  case b4 => simp
  intro w1 hown hgr
  have hb1 := below_gr hgr
  have c0 : w1.cell? ⟨w.heap.size, 0, none⟩ = some (.int .i64 0) := by rw [hb1.cell (p := ⟨w.heap.size, 0, none⟩) (by simp)]; simp
  have f0 : w1.frozen? ⟨w.heap.size, 0, none⟩ = false := by rw [hb1.frozen (p := ⟨w.heap.size, 0, none⟩) (by simp), newFz]
  have c1 : w1.cell? ⟨w.heap.size, 1, none⟩ = some (.slice none 0 0) := by rw [hb1.cell (p := ⟨w.heap.size, 1, none⟩) (by simp)]; simp
  have f1 : w1.frozen? ⟨w.heap.size, 1, none⟩ = false := by rw [hb1.frozen (p := ⟨w.heap.size, 1, none⟩) (by simp), newFz]
  have c2 : w1.cell? ⟨w.heap.size, 2, none⟩ = some (.slice none 0 0) := by rw [hb1.cell (p := ⟨w.heap.size, 2, none⟩) (by simp)]; simp
  have f2 : w1.frozen? ⟨w.heap.size, 2, none⟩ = false := by rw [hb1.frozen (p := ⟨w.heap.size, 2, none⟩) (by simp), newFz]
  have c3 : w1.cell? ⟨w.heap.size, 3, none⟩ = some (.slice none 0 0) := by rw [hb1.cell (p := ⟨w.heap.size, 3, none⟩) (by simp)]; simp
  have f3 : w1.frozen? ⟨w.heap.size, 3, none⟩ = false := by rw [hb1.frozen (p := ⟨w.heap.size, 3, none⟩) (by simp), newFz]
  have c4 : w1.cell? ⟨w.heap.size, 4, none⟩ = some (.int .i64 0) := by rw [hb1.cell (p := ⟨w.heap.size, 4, none⟩) (by simp)]; simp
  have f4 : w1.frozen? ⟨w.heap.size, 4, none⟩ = false := by rw [hb1.frozen (p := ⟨w.heap.size, 4, none⟩) (by simp), newFz]
  have Hown := Lib.hid hown
  have Hb1 := Lib.hid hb1
  clear hown hgr hb1
  go_wp2_with fail
  obtain ⟨r0, r1, r2, r3, r4⟩ := five (v0 := .int .i64 (n : Int)) (v1 := .slice none 0 0) (v2 := .slice (some ⟨w.heap.size + 1, 0, none⟩) n n) (v3 := .slice none 0 0) (v4 := .int .i64 0) c0 c1 c2 c3 c4
  refine bodyPost_ret (v := .tuple #[.agg #[.int .i64 (n : Int), .slice none 0 0, .slice (some ⟨w.heap.size + 1, 0, none⟩) n n, .slice none 0 0, .int .i64 0], .bool true]) (by simp [results, Try.results26, go_sem, r0, r1, r2, r3, r4]) rfl ⟨_, _, rfl, fun _ => ⟨w.heap.size + 1, rfl, ?_, fun j hj => ?_⟩, ?_⟩
  · have := (Hown.out.lt _ rfl).2
    simpa [World.setCell] using this
  · rw [World.cell?_setCell_other _ _ _ _ (by simp), World.cell?_setCell_other _ _ _ _ (by simp), World.cell?_setCell_other _ _ _ _ (by simp), World.cell?_setCell_other _ _ _ _ (by simp), World.cell?_setCell_other _ _ _ _ (by simp), Hown.out.cellAt _ (by omega), toList_madeCells_one]
    simp [hj]
  · have hb : Below w.heap.size w w1 := Below.trans ((Below.refl _ _).alloc (Nat.le_refl _) _) (Hb1.out.mono (by simp))
    exact ((((hb.setCell (Nat.le_refl _) _).setCell (Nat.le_refl _) _).setCell (Nat.le_refl _) _).setCell (Nat.le_refl _) _).setCell (Nat.le_refl _) _

set_option maxRecDepth 100000 in
set_option maxHeartbeats 2000000 in
theorem snet_no (x : Int) (w : World) (h : x < 1 ∨ 6 < x) : Calls Try.prog 26 #[.int .i64 x] w (NwPost 0 0 false w) := by
  have hin : (decide ((1 : Int) ≤ x) && decide (x ≤ 6)) = false := by
    rcases h with h | h
    · rw [decide_eq_false (by omega), Bool.false_and]
    · rw [decide_eq_false (show ¬ x ≤ 6 by omega), Bool.and_false]
  go_enter Try.func26, Try.ntmps26
  go_wp2_with fail
  go_at_call 32
  refine (nin_any _ 1 6 _).mono ?_
  rw [hin]
  rintro e w' ⟨rfl, rfl⟩
  go_wp2_with fail
  refine bodyPost_ret (v := .tuple #[.agg #[.int .i64 0, .slice none 0 0, .slice none 0 0, .slice none 0 0, .int .i64 0], .bool false]) (by simp [results, Try.results26, go_sem]) rfl ⟨_, _, rfl, fun h0 => absurd h0 (Nat.lt_irrefl 0), ?_⟩
  go_grown

set_option maxRecDepth 100000 in
set_option maxHeartbeats 2000000 in
theorem inet_no (x : Int) (w : World) (h : x < 1 ∨ 6 < x) : Calls Try.prog 27 #[.int .i64 x] w (NwPost 0 0 false w) := by
  rcases h with h | h
  · have q1 : x < 1 := h
    have d1 : decide (x < 1) = true := decide_eq_true h
    go_enter Try.func27, Try.ntmps27
    go_wp2_with fail
    refine bodyPost_ret (v := .tuple #[.agg #[.int .i64 0, .slice none 0 0, .slice none 0 0, .slice none 0 0, .int .i64 0], .bool false]) (by simp [results, Try.results27, go_sem]) rfl ⟨_, _, rfl, fun h0 => absurd h0 (Nat.lt_irrefl 0), ?_⟩
    go_grown
  · have q1 : ¬ x < 1 := by omega
    have d1 : decide (x < 1) = false := decide_eq_false q1
    have d2 : decide (6 < x) = true := decide_eq_true h
    go_enter Try.func27, Try.ntmps27
    go_wp2_with fail
    refine bodyPost_ret (v := .tuple #[.agg #[.int .i64 0, .slice none 0 0, .slice none 0 0, .slice none 0 0, .int .i64 0], .bool false]) (by simp [results, Try.results27, go_sem]) rfl ⟨_, _, rfl, fun h0 => absurd h0 (Nat.lt_irrefl 0), ?_⟩
    go_grown

end Go.Proofs.Ytkkfgnnhdcmmjab
