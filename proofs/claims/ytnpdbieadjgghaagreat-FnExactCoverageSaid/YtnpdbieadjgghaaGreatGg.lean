/- The helpers of the laws over graphs. -/
import Derived.Test.YtnpdbieadjgghaaGreatGe
namespace Go.Proofs.YtnpdbieadjgghaaGreat
open Go.RowKit


set_option maxHeartbeats 1000000 in
theorem szEdgeS_any (a : Option Addr) (n c : Nat) (l : Int) (w : World) (hn : n ≤ maxLen) (h0 : 0 ≤ l) (h1 : l ≤ 1048576) :
    Calls Tryz.prog 29 #[.slice a n c, .int .i64 l] w fun e w' => e = .returned (.int .i64 (if l - (n : Int) < 0 then -1 else l - (n : Int))) ∧ w = w' := by
  unfold maxLen at hn
  by_cases h : l - (n : Int) < 0
  · rw [if_pos h]
    go_enter Tryz.func29, Tryz.ntmps29
    go_wp2
    go_ret
    exact ⟨rfl, rfl⟩
  · rw [if_neg h]
    go_enter Tryz.func29, Tryz.ntmps29
    go_wp2
    go_ret
    exact ⟨rfl, rfl⟩

set_option maxHeartbeats 1000000 in
theorem szGraph_any (x : Int) (a : Option Addr) (n c : Nat) (l : Int) (w : World) (hn : n ≤ maxLen) (h0 : 0 ≤ l) (h1 : l ≤ 1048576) :
    Calls Tryz.prog 6 #[.agg #[.int .i64 x, .slice a n c], .int .i64 l] w fun e w' => e = .returned (.int .i64 (if l - (n : Int) < 0 then -1 else l - (n : Int))) ∧ Below w.heap.size w w' := by
  by_cases h : l - (n : Int) < 0
  · rw [if_pos h]
    have H := szEdgeS_any a n c l
    simp only [if_pos h] at H
    have hm : (-1 : Int) < 0 := by omega
    go_enter Tryz.func6, Tryz.ntmps6
    go_wp2_with (go_at_call 29; refine (H _ hn h0 h1).mono ?_; rintro e w' ⟨rfl, rfl⟩)
    go_ret
    exact ⟨rfl, by go_grown⟩
  · rw [if_neg h]
    have H := szEdgeS_any a n c l
    simp only [if_neg h] at H
    go_enter Tryz.func6, Tryz.ntmps6
    go_wp2_with (go_at_call 29; refine (H _ hn h0 h1).mono ?_; rintro e w' ⟨rfl, rfl⟩)
    go_ret
    exact ⟨rfl, by go_grown⟩

set_option maxHeartbeats 1000000 in
theorem toGraph_any (x : Int) (v : Value) (n : Nat) (Z : Nat → Int) (w : World) (hA : Arg 3 w v n Z) (hn : n ≤ 1048576) :
    Calls Tryz.prog 8 #[.agg #[.int .i64 x, v]] w fun e w' => ∃ rv, e = .returned (.agg #[.int .i64 x, rv]) ∧ Row 3 w' w.heap.size w'.heap.size rv n ((List.range (n * 3)).map Z) ∧ Below w.heap.size w w' := by
  have HA := Lib.hid hA
  obtain ⟨a, c, rfl⟩ := hA.slice
  clear hA
  go_enter Tryz.func8, Tryz.ntmps8
  go_wp2_with fail
  go_at_call 33
  refine (toEdgeS_any _ n Z _ (HA.out.below (by go_grown)) hn).mono ?_
  rintro e w3 ⟨rv, rfl, hr, hb3⟩
  have HR := Lib.hid hr
  have hone : ∃ a c, rv = .slice a n c := hr.slice
  obtain ⟨a', c', rfl⟩ := hone
  clear hr
  obtain ⟨hc3, hf3⟩ := bcell hb3
  have hz3 := hb3.size
  simp at hz3
  have hB3 : Below w.heap.size w w3 := Below.trans (by go_grown) (hb3.mono (by first | omega | (simp <;> omega)))
  have k3_0_0 := hc3 (w.heap.size) 0 (by first | omega | (simp <;> omega))
  simp [go_sem] at k3_0_0
  have f3_0_0 := hf3 (w.heap.size) 0 (by first | omega | (simp <;> omega))
  simp [go_sem] at f3_0_0
  have k3_0_1 := hc3 (w.heap.size) 1 (by first | omega | (simp <;> omega))
  simp [go_sem] at k3_0_1
  have f3_0_1 := hf3 (w.heap.size) 1 (by first | omega | (simp <;> omega))
  simp [go_sem] at f3_0_1
  have k3_1_0 := hc3 (w.heap.size + 1) 0 (by first | omega | (simp <;> omega))
  simp [go_sem] at k3_1_0
  have f3_1_0 := hf3 (w.heap.size + 1) 0 (by first | omega | (simp <;> omega))
  simp [go_sem] at f3_1_0
  have k3_1_1 := hc3 (w.heap.size + 1) 1 (by first | omega | (simp <;> omega))
  simp [go_sem] at k3_1_1
  have f3_1_1 := hf3 (w.heap.size + 1) 1 (by first | omega | (simp <;> omega))
  simp [go_sem] at f3_1_1
  have k3_2_0 := hc3 (w.heap.size + 1 + 1) 0 (by first | omega | (simp <;> omega))
  simp [go_sem] at k3_2_0
  have f3_2_0 := hf3 (w.heap.size + 1 + 1) 0 (by first | omega | (simp <;> omega))
  simp [go_sem] at f3_2_0
  have k3_2_1 := hc3 (w.heap.size + 1 + 1) 1 (by first | omega | (simp <;> omega))
  simp [go_sem] at k3_2_1
  have f3_2_1 := hf3 (w.heap.size + 1 + 1) 1 (by first | omega | (simp <;> omega))
  simp [go_sem] at f3_2_1
  clear hc3 hf3
  go_wp2_with fail
  refine bodyPost_ret (v := .agg #[.int .i64 x, .slice a' n c']) (by simp [results, Tryz.results8, go_sem, *]) rfl ⟨_, rfl, ?_, ?_⟩
  · have hs := hb3.size
    simp at hs
    exact ((((HR.out.setCell (.inl (by simp <;> omega)) _).setCell (.inl (by simp <;> omega)) _).setCell (.inl (by simp <;> omega)) _).wide (by simp <;> omega) (by simp [World.setCell]))
  · exact (((hB3.setCell (by simp <;> omega) _).setCell (by simp <;> omega) _).setCell (by simp <;> omega) _)

set_option maxHeartbeats 1000000 in
theorem eqGraph_same (x : Int) (Z : List Int) (n lo hi lo' hi' : Nat) (v v' : Value) (w : World) (hr : Row 3 w lo hi v n Z) (hr' : Row 3 w lo' hi' v' n Z) (hh : hi ≤ w.heap.size) (hh' : hi' ≤ w.heap.size) :
    Calls Tryz.prog 10 #[.agg #[.int .i64 x, v], .agg #[.int .i64 x, v']] w fun e w' => e = .returned (.bool true) ∧ Below w.heap.size w w' := by
  have HR := Lib.hid hr
  have HR' := Lib.hid hr'
  obtain ⟨a, c, rfl⟩ := hr.slice
  obtain ⟨a', c', rfl⟩ := hr'.slice
  clear hr hr'
  go_enter Tryz.func10, Tryz.ntmps10
  go_wp2_with fail
  go_at_call 37
  refine (eqEdgeS_same Z n lo hi lo' hi' _ _ _ (HR.out.below (B := w.heap.size) (by go_grown) hh) (HR'.out.below (B := w.heap.size) (by go_grown) hh') (by simp; omega) (by simp; omega)).mono ?_
  rintro e w3 ⟨rfl, hb3⟩
  have hB : Below w.heap.size w w3 := Below.trans (by go_grown) (hb3.mono (by simp <;> omega))
  clear hb3
  go_wp2_with fail
  go_ret
  exact ⟨rfl, hB⟩

end Go.Proofs.YtnpdbieadjgghaaGreat
