/- NearOk and DeadAt of the model and of the program as contracts. -/
import Derived.Test.YthcbdnlolonngaaRows
import Derived.WalkKit
import Derived.WalkSpells
import Derived.WalkLawsBesides
import Derived.BigQuiet
import Derived.Deep.QuietTactic
import Derived.Deep.RegionHeld3
import Derived.Lib.Hide
import Derived.IntWalk
import Derived.WalkSmall
import Derived.Handy
namespace Go.Proofs.Ythcbdnlolonngaa
open Go.RowKit

theorem ret_int {k : IntKind} {a b : Int} (h : a = b) : Ending.returned (.int k a) = .returned (.int k b) := by rw [h]
theorem quiet_same {P : Program} {f : FuncId} {args : Array Value} {w : World} {n : Nat} {v : Value}
    (h : Calls P f args (w.drewN n) fun e w' => e = .returned v ∧ w.drewN n = w') : Calls P f args (w.drewN n) fun e w'' => e = .returned v ∧ ∃ m, w'' = w.drewN m :=
  h.mono fun _ _ ⟨he, hm⟩ => ⟨he, n, hm.symm⟩
theorem bcell {W w1 : World} (hb : Below W.heap.size W w1) : (∀ b o, b < W.heap.size → w1.cell? ⟨b, o, none⟩ = W.cell? ⟨b, o, none⟩) ∧ (∀ b o, b < W.heap.size → w1.frozen? ⟨b, o, none⟩ = W.frozen? ⟨b, o, none⟩) :=
  ⟨fun b o h => hb.cell (p := ⟨b, o, none⟩) h, fun b o h => hb.frozen (p := ⟨b, o, none⟩) h⟩
/-- What a call leaves, seen from the world in which the caller's own boxes were laid. -/
theorem chain {W0 w1 w2 : World} (h : Below W0.heap.size W0 w1) (hb : Below w1.heap.size w1 w2) : Below W0.heap.size W0 w2 := h.trans (hb.mono h.size)
theorem unbox {w w2 : World} {o : Obj} (h : Below (w.alloc o).heap.size (w.alloc o) w2) : Below w.heap.size w w2 := ((Below.refl _ _).alloc (Nat.le_refl _) _).trans (h.mono (by simp))
theorem w_in {x : Int} (h0 : -9223372036854775808 ≤ x) (h1 : x ≤ 9223372036854775807) : wrap64 x = x := by
  unfold wrap64; omega


def inB (x lo hi : Int) : Bool := decide (lo ≤ x ∧ x ≤ hi)
theorem inB_true {x lo hi : Int} (h0 : lo ≤ x) (h1 : x ≤ hi) : inB x lo hi = true := decide_eq_true ⟨h0, h1⟩
theorem inB_false {x lo hi : Int} (h : ¬ (lo ≤ x ∧ x ≤ hi)) : inB x lo hi = false := decide_eq_false h
/-- Whether an adjacency is valid. -/
def nokB (s l k : Int) : Bool := inB s 0 4 && inB l 0 1000000 && (if s = 3 then inB k 1 10 else k == 0)

set_option maxHeartbeats 400000 in
theorem in_any (x lo hi : Int) (w : World) :
    Calls Try.prog 10 #[.int .i64 x, .int .i64 lo, .int .i64 hi] w fun e w' => e = .returned (.bool (inB x lo hi)) ∧ w = w' := by
  by_cases h1 : lo ≤ x
  · by_cases h2 : x ≤ hi
    · rw [inB_true h1 h2]
      go_enter Try.func10, Try.ntmps10
      go_wp2
      go_ret
      exact ⟨rfl, rfl⟩
    · rw [inB_false (by omega)]
      go_enter Try.func10, Try.ntmps10
      go_wp2
      go_ret
      exact ⟨rfl, rfl⟩
  · rw [inB_false (by omega)]
    go_enter Try.func10, Try.ntmps10
    go_wp2
    go_ret
    exact ⟨rfl, rfl⟩

set_option maxHeartbeats 400000 in
theorem wants_any (x : Int) (w : World) :
    Calls Try.prog 11 #[.int .i64 x] w fun e w' => e = .returned (.bool (inB x 1 10)) ∧ w = w' := by
  by_cases h1 : 1 ≤ x
  · by_cases h2 : x ≤ 10
    · rw [inB_true h1 h2]
      go_enter Try.func11, Try.ntmps11
      go_wp2
      go_ret
      exact ⟨rfl, rfl⟩
    · rw [inB_false (by omega)]
      go_enter Try.func11, Try.ntmps11
      go_wp2
      go_ret
      exact ⟨rfl, rfl⟩
  · rw [inB_false (by omega)]
    go_enter Try.func11, Try.ntmps11
    go_wp2
    go_ret
    exact ⟨rfl, rfl⟩

set_option maxHeartbeats 400000 in
theorem toN_any (s l k : Int) (w : World) :
    Calls Try.prog 6 #[.agg #[.int .i64 s, .int .i64 l, .int .i64 k]] w fun e w' => e = .returned (.agg #[.int .i64 s, .int .i64 l, .int .i64 k]) ∧ Below w.heap.size w w' := by
  go_enter Try.func6, Try.ntmps6
  go_wp2
  go_returns
  exact ⟨rfl, by go_grown⟩


set_option maxHeartbeats 2000000 in
theorem snok_any (s l k : Int) (w : World) :
    Calls Try.prog 5 #[.agg #[.int .i64 s, .int .i64 l, .int .i64 k]] w fun e w' => e = .returned (.bool (nokB s l k)) ∧ Below w.heap.size w w' := by
  unfold nokB
  cases h1 : inB s 0 4
  · rw [Bool.false_and, Bool.false_and]
    go_enter Try.func5, Try.ntmps5
    go_wp2_with ((go_at_call 10; refine (in_any _ _ _ _).mono ?_; rintro e w2 ⟨rfl, rfl⟩))
    go_ret
    exact ⟨rfl, by go_grown⟩
  · cases h2 : inB l 0 1000000
    · rw [Bool.and_false, Bool.false_and]
      go_enter Try.func5, Try.ntmps5
      go_wp2_with ((go_at_call 10; refine (in_any _ _ _ _).mono ?_; rintro e w2 ⟨rfl, rfl⟩))
      go_ret
      exact ⟨rfl, by go_grown⟩
    · rw [Bool.and_self, Bool.true_and]
      by_cases h3 : s = 3
      · subst h3
        rw [if_pos rfl]
        go_enter Try.func5, Try.ntmps5
        go_wp2_with ((go_at_call 10; refine (in_any _ _ _ _).mono ?_; rintro e w2 ⟨rfl, rfl⟩))
        go_ret
        exact ⟨rfl, by go_grown⟩
      · rw [if_neg h3]
        have h3' : (s == 3) = false := by rw [beq_eq_false_iff_ne]; exact h3
        go_enter Try.func5, Try.ntmps5
        go_wp2_with ((go_at_call 10; refine (in_any _ _ _ _).mono ?_; rintro e w2 ⟨rfl, rfl⟩))
        go_ret
        exact ⟨rfl, by go_grown⟩

set_option maxHeartbeats 2000000 in
theorem inok_any (s l k : Int) (w : World) :
    Calls Try.prog 7 #[.agg #[.int .i64 s, .int .i64 l, .int .i64 k]] w fun e w' => e = .returned (.bool (nokB s l k)) ∧ Below w.heap.size w w' := by
  unfold nokB
  by_cases a1 : 0 ≤ s
  · by_cases a2 : s ≤ 4
    · rw [inB_true a1 a2, Bool.true_and]
      by_cases b1 : 0 ≤ l
      · by_cases b2 : l ≤ 1000000
        · rw [inB_true b1 b2, Bool.true_and]
          by_cases h3 : s = 3
          · subst h3
            rw [if_pos rfl]
            go_enter Try.func7, Try.ntmps7
            go_wp2_with ((go_at_call 11; refine (wants_any _ _).mono ?_; rintro e w2 ⟨rfl, rfl⟩))
            go_ret
            exact ⟨rfl, by go_grown⟩
          · rw [if_neg h3]
            have h3' : (s == 3) = false := by rw [beq_eq_false_iff_ne]; exact h3
            go_enter Try.func7, Try.ntmps7
            go_wp2_with ((go_at_call 11; refine (wants_any _ _).mono ?_; rintro e w2 ⟨rfl, rfl⟩))
            go_ret
            exact ⟨rfl, by go_grown⟩
        · rw [inB_false (by omega), Bool.false_and]
          go_enter Try.func7, Try.ntmps7
          go_wp2_with ((go_at_call 11; refine (wants_any _ _).mono ?_; rintro e w2 ⟨rfl, rfl⟩))
          go_ret
          exact ⟨rfl, by go_grown⟩
      · rw [inB_false (by omega), Bool.false_and]
        go_enter Try.func7, Try.ntmps7
        go_wp2_with ((go_at_call 11; refine (wants_any _ _).mono ?_; rintro e w2 ⟨rfl, rfl⟩))
        go_ret
        exact ⟨rfl, by go_grown⟩
    · rw [inB_false (by omega), Bool.false_and, Bool.false_and]
      go_enter Try.func7, Try.ntmps7
      go_wp2_with ((go_at_call 11; refine (wants_any _ _).mono ?_; rintro e w2 ⟨rfl, rfl⟩))
      go_ret
      exact ⟨rfl, by go_grown⟩
  · rw [inB_false (by omega), Bool.false_and, Bool.false_and]
    go_enter Try.func7, Try.ntmps7
    go_wp2_with ((go_at_call 11; refine (wants_any _ _).mono ?_; rintro e w2 ⟨rfl, rfl⟩))
    go_ret
    exact ⟨rfl, by go_grown⟩

end Go.Proofs.Ythcbdnlolonngaa
