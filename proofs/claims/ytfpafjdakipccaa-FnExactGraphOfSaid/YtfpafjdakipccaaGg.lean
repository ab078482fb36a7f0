/- Graphs: equal, marked, held. -/
import Derived.Test.YtfpafjdakipccaaGe
namespace Go.Proofs.Ytfpafjdakipccaa
open Go.RowKit

theorem eqGraph_same (x : Int) (Z : List Int) (n lo hi lo' hi' : Nat) (v v' : Value) (w : World) (hr : Row 3 w lo hi v n Z) (hr' : Row 3 w lo' hi' v' n Z) (hh : hi ≤ w.heap.size) (hh' : hi' ≤ w.heap.size) :
    Calls Try.prog 44 #[.agg #[.int .i64 x, v], .agg #[.int .i64 x, v']] w fun e w' => e = .returned (.bool true) ∧ Below w.heap.size w w' := by
  have HR := Lib.hid hr
  have HR' := Lib.hid hr'
  obtain ⟨a, c, rfl⟩ := hr.slice
  obtain ⟨a', c', rfl⟩ := hr'.slice
  clear hr hr'
  go_enter Try.func44, Try.ntmps44
  go_wp2_with fail
  go_at_call 83
  refine (eqEdgeS_same Z n lo hi lo' hi' _ _ _ (HR.out.below (B := w.heap.size) (by go_grown) hh) (HR'.out.below (B := w.heap.size) (by go_grown) hh') (by simp; omega) (by simp; omega)).mono ?_
  rintro e w3 ⟨rfl, hb3⟩
  have hB : Below w.heap.size w w3 := Below.trans (by go_grown) (hb3.mono (by simp <;> omega))
  clear hb3
  go_wp2_with fail
  go_ret
  exact ⟨rfl, hB⟩

theorem markGraph_any (x : Int) (Z : List Int) (n lo hi : Nat) (v : Value) (k : Int) (w : World) (hr : Row 3 w lo hi v n Z) (hh : hi ≤ w.heap.size) (hl : n ≤ 1100000) (hk0 : 0 ≤ k) (hk1 : k ≤ 1000000000) :
    Calls Try.prog 45 #[.agg #[.int .i64 x, v], .int .i64 k] w fun e w' => e = .returned (.int .i64 (k + ((n * 3 : Nat) : Int))) ∧ Row 3 w' lo hi v n (marks k (n * 3)) ∧ Turned lo hi w w' := by
  have HR := Lib.hid hr
  obtain ⟨a, c, rfl⟩ := hr.slice
  clear hr
  go_enter Try.func45, Try.ntmps45
  go_wp2_with fail
  go_at_call 84
  refine (markEdgeS Z n lo hi _ k _ (HR.out.below (B := w.heap.size) (by go_grown) hh) hl hk0 hk1).mono ?_
  rintro e w3 ⟨rfl, hm, hO⟩
  have HM := Lib.hid (And.intro hm hO)
  clear hm hO
  go_wp2_with fail
  go_ret
  exact ⟨rfl, HM.out.1, HM.out.2.boxed⟩

theorem markGraph_K (x : Int) (K : Int) (Z : List Int) (n lo hi : Nat) (v : Value) (w : World) (hK : K = 1 + ((n * 3 : Nat) : Int)) (hr : Row 3 w lo hi v n Z) (hh : hi ≤ w.heap.size) (hl : n ≤ 1100000) :
    Calls Try.prog 45 #[.agg #[.int .i64 x, v], .int .i64 1] w fun e w' => e = .returned (.int .i64 K) ∧ Row 3 w' lo hi v n (marks 1 (n * 3)) ∧ Turned lo hi w w' := by
  subst hK
  exact markGraph_any x Z n lo hi v 1 w hr hh hl (by omega) (by omega)

theorem heldGraph_any (x : Int) (n lo hi : Nat) (v : Value) (k : Int) (w : World) (hr : Row 3 w lo hi v n (marks k (n * 3))) (hh : hi ≤ w.heap.size) (hl : n ≤ 1100000) (hk0 : 0 ≤ k) (hk1 : k ≤ 1000000000) :
    Calls Try.prog 46 #[.agg #[.int .i64 x, v], .int .i64 k] w fun e w' => e = .returned (.int .i64 (k + ((n * 3 : Nat) : Int))) ∧ Below w.heap.size w w' := by
  have HR := Lib.hid hr
  obtain ⟨a, c, rfl⟩ := hr.slice
  clear hr
  have hneg : decide (k + ((n * 3 : Nat) : Int) < 0) = false := decide_eq_false (by omega)
  generalize hq : k + ((n * 3 : Nat) : Int) = q at *
  have Hq := Lib.hid hq
  clear hq
  go_enter Try.func46, Try.ntmps46
  go_wp2_with fail
  go_at_call 85
  refine (heldEdgeS n lo hi _ k _ (HR.out.below (B := w.heap.size) (by go_grown) hh) hl hk0 hk1).mono ?_
  rw [Hq.out]
  rintro e w3 ⟨rfl, rfl⟩
  go_wp2_with fail
  go_ret
  exact ⟨rfl, by go_grown⟩
theorem heldGraph_K (x : Int) (K : Int) (n lo hi : Nat) (v : Value) (w : World) (hK : K = 1 + ((n * 3 : Nat) : Int)) (hr : Row 3 w lo hi v n (marks 1 (n * 3))) (hh : hi ≤ w.heap.size) (hl : n ≤ 1100000) :
    Calls Try.prog 46 #[.agg #[.int .i64 x, v], .int .i64 1] w fun e w' => e = .returned (.int .i64 K) ∧ Below w.heap.size w w' := by
  subst hK
  exact heldGraph_any x n lo hi v 1 w hr hh hl (by omega) (by omega)

theorem markGraph_T (K : Int) (x : Int) (Z : List Int) (n lo hi : Nat) (v : Value) (w : World) (hK : K = 1 + ((n * 3 : Nat) : Int)) (hr : Row 3 w lo hi v n Z) (hl : n ≤ 1100000) (hh : hi ≤ w.heap.size) :
    Calls Try.prog 45 #[.agg #[.int .i64 x, v], .int .i64 1] w fun e w' => e = .returned (.int .i64 K) ∧ Row 3 w' lo hi v n (marks 1 (n * 3)) ∧ Tur lo hi w w' := by
  subst hK
  exact (markGraph_any x Z n lo hi v 1 w hr hh hl (by omega) (by omega)).mono fun _ _ ⟨h1, h2, h3⟩ => ⟨h1, h2, Tur.of h3⟩
theorem heldGraph_T (K : Int) (x : Int) (n lo hi : Nat) (v : Value) (w : World) (hK : K = 1 + ((n * 3 : Nat) : Int)) (hr : Row 3 w lo hi v n (marks 1 (n * 3))) (hl : n ≤ 1100000) (hh : hi ≤ w.heap.size) :
    Calls Try.prog 46 #[.agg #[.int .i64 x, v], .int .i64 1] w fun e w' => e = .returned (.int .i64 K) ∧ Below w.heap.size w w' := by
  subst hK
  exact heldGraph_any x n lo hi v 1 w hr hh hl (by omega) (by omega)

end Go.Proofs.Ytfpafjdakipccaa
