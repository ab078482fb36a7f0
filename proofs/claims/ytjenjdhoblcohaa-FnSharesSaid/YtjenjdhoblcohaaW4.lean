/- GraphOk of the model and of the program as contracts, whatever the graph. -/
import Derived.Test.YtjenjdhoblcohaaW3
namespace Go.Proofs.Ytjenjdhoblcohaa
open Go.RowKit


set_option maxHeartbeats 1000000 in
theorem sgok_nil (N : Int) (a : Option Addr) (c : Nat) (w : World) (hN1 : 1 ≤ N) (hN2 : N ≤ 10) :
    Calls Try.prog 47 #[.agg #[.int .i64 N, .slice a 0 c]] w fun e w' => e = .returned (.bool true) ∧ Below w.heap.size w w' := by
  have hl1 : decide (N < 1) = false := decide_eq_false (by omega)
  have hl2 : decide (10 < N) = false := decide_eq_false (by omega)
  go_enter Try.func47, Try.ntmps47
  go_wp2_with fail
  go_at_call 59
  refine (in_any N 1 10 _).mono ?_
  rw [inB_true hN1 hN2]
  rintro e w1 ⟨rfl, rfl⟩
  go_wp2
  go_loop [3] (fun i => i = .int .i64 0) (fun i => (intOf i).toNat)
  case atStart => exact rfl
  case round =>
    subst hrel
    go_wp2
    go_ret
    exact ⟨rfl, by go_grown⟩

set_option maxHeartbeats 1000000 in
theorem sgok_big (N : Int) (a : Option Addr) (n c : Nat) (w : World) (hN1 : 1 ≤ N) (hN2 : N ≤ 10) (h : 60 < n) (hn : n ≤ 1100000) :
    Calls Try.prog 47 #[.agg #[.int .i64 N, .slice a n c]] w fun e w' => e = .returned (.bool false) ∧ Below w.heap.size w w' := by
  have hl1 : decide (N < 1) = false := decide_eq_false (by omega)
  have hl2 : decide (10 < N) = false := decide_eq_false (by omega)
  have h1 : (60 : Int) < (n : Int) := by omega
  go_enter Try.func47, Try.ntmps47
  go_wp2_with fail
  go_at_call 59
  refine (in_any N 1 10 _).mono ?_
  rw [inB_true hN1 hN2]
  rintro e w1 ⟨rfl, rfl⟩
  go_wp2
  go_ret
  exact ⟨rfl, by go_grown⟩


set_option maxHeartbeats 1000000 in
theorem sgok_out (N : Int) (a : Option Addr) (n c : Nat) (w : World) (h : N < 1 ∨ 10 < N) :
    Calls Try.prog 47 #[.agg #[.int .i64 N, .slice a n c]] w fun e w' => e = .returned (.bool false) ∧ Below w.heap.size w w' := by
  have hi := inB_false (x := N) (a := 1) (b := 10) h
  clear h
  go_enter Try.func47, Try.ntmps47
  go_wp2_with fail
  go_at_call 59
  refine (in_any N 1 10 _).mono ?_
  rw [hi]
  rintro e w1 ⟨rfl, rfl⟩
  go_wp2
  go_ret
  exact ⟨rfl, by go_grown⟩

/-- The model says of every graph whether it is valid. -/
theorem sgok_any (N : Int) (lo hi n : Nat) (v : Value) (L : List Ed) (w : World) (hL : L.length = n) (hr : Row 3 w lo hi v n (flat L)) (hh : hi ≤ w.heap.size) :
    Calls Try.prog 47 #[.agg #[.int .i64 N, v]] w fun e w' => e = .returned (.bool (gok N L)) ∧ Below w.heap.size w w' := by
  by_cases hN : 1 ≤ N ∧ N ≤ 10
  · obtain ⟨hN1, hN2⟩ := hN
    rcases hr.2 with ⟨rfl, a, c, rfl⟩ | ⟨g, cap, rfl, h1, h2, h3, h4, h5⟩
    · have : L = [] := List.eq_nil_of_length_eq_zero hL
      subst this
      rw [gok_yes hN1 hN2 (by simp) (fun i hi => absurd hi (Nat.not_lt_zero _))]
      exact sgok_nil N a c w hN1 hN2
    · by_cases h60 : n ≤ 60
      · exact sgok_some N g n cap L w hN1 hN2 hL h60 (by omega) h4
      · rw [gok_big (by omega)]
        exact sgok_big N _ n cap w hN1 hN2 (by omega) h3
  · obtain ⟨a, c, rfl⟩ := hr.slice
    rw [gok_n (by omega)]
    exact sgok_out N a n c w (by omega)

set_option maxHeartbeats 1000000 in
theorem igok_nil (N : Int) (a : Option Addr) (c : Nat) (w : World) (hN1 : 1 ≤ N) (hN2 : N ≤ 10) :
    Calls Try.prog 51 #[.agg #[.int .i64 N, .slice a 0 c]] w fun e w' => e = .returned (.bool true) ∧ Below w.heap.size w w' := by
  have hl1 : decide (N < 1) = false := decide_eq_false (by omega)
  have hl2 : decide (10 < N) = false := decide_eq_false (by omega)
  go_enter Try.func51, Try.ntmps51
  go_wp2
  go_loop [22] (fun i => i = .int .i64 0) (fun i => (intOf i).toNat)
  case atStart => exact rfl
  case round =>
    subst hrel
    go_wp2
    go_ret
    exact ⟨rfl, by go_grown⟩

set_option maxHeartbeats 1000000 in
theorem igok_big (N : Int) (a : Option Addr) (n c : Nat) (w : World) (hN1 : 1 ≤ N) (hN2 : N ≤ 10) (h : 60 < n) (hn : n ≤ 1100000) :
    Calls Try.prog 51 #[.agg #[.int .i64 N, .slice a n c]] w fun e w' => e = .returned (.bool false) ∧ Below w.heap.size w w' := by
  have hl1 : decide (N < 1) = false := decide_eq_false (by omega)
  have hl2 : decide (10 < N) = false := decide_eq_false (by omega)
  have h1 : (60 : Int) < (n : Int) := by omega
  go_enter Try.func51, Try.ntmps51
  go_wp2
  go_ret
  exact ⟨rfl, by go_grown⟩


set_option maxHeartbeats 1000000 in
theorem igok_out (N : Int) (a : Option Addr) (n c : Nat) (w : World) (h : N < 1 ∨ 10 < N) :
    Calls Try.prog 51 #[.agg #[.int .i64 N, .slice a n c]] w fun e w' => e = .returned (.bool false) ∧ Below w.heap.size w w' := by
  by_cases hl1 : N < 1
  · clear h
    go_enter Try.func51, Try.ntmps51
    go_wp2
    go_ret
    exact ⟨rfl, by go_grown⟩
  · have hl2 : 10 < N := by omega
    have hl3 : decide (N < 1) = false := decide_eq_false hl1
    clear h
    go_enter Try.func51, Try.ntmps51
    go_wp2
    go_ret
    exact ⟨rfl, by go_grown⟩

/-- The program says of every graph whether it is valid. -/
theorem igok_any (N : Int) (lo hi n : Nat) (v : Value) (L : List Ed) (w : World) (hL : L.length = n) (hr : Row 3 w lo hi v n (flat L)) (hh : hi ≤ w.heap.size) :
    Calls Try.prog 51 #[.agg #[.int .i64 N, v]] w fun e w' => e = .returned (.bool (gok N L)) ∧ Below w.heap.size w w' := by
  by_cases hN : 1 ≤ N ∧ N ≤ 10
  · obtain ⟨hN1, hN2⟩ := hN
    rcases hr.2 with ⟨rfl, a, c, rfl⟩ | ⟨g, cap, rfl, h1, h2, h3, h4, h5⟩
    · have : L = [] := List.eq_nil_of_length_eq_zero hL
      subst this
      rw [gok_yes hN1 hN2 (by simp) (fun i hi => absurd hi (Nat.not_lt_zero _))]
      exact igok_nil N a c w hN1 hN2
    · by_cases h60 : n ≤ 60
      · exact igok_some N g n cap L w hN1 hN2 hL h60 (by omega) h4
      · rw [gok_big (by omega)]
        exact igok_big N _ n cap w hN1 hN2 (by omega) h3
  · obtain ⟨a, c, rfl⟩ := hr.slice
    rw [gok_n (by omega)]
    exact igok_out N a n c w (by omega)

end Go.Proofs.Ytjenjdhoblcohaa
