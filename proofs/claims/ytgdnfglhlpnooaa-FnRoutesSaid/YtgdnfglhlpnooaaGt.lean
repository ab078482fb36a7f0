/- The helpers of the laws over tables. -/
import Derived.Test.YtgdnfglhlpnooaaGr
namespace Go.Proofs.Ytgdnfglhlpnooaa
open Go.RowKit


set_option maxHeartbeats 1000000 in
theorem szRouteS_any (a : Option Addr) (n c : Nat) (l : Int) (w : World) (hn : n ≤ maxLen) (h0 : 0 ≤ l) (h1 : l ≤ 1048576) :
    Calls Try.prog 51 #[.slice a n c, .int .i64 l] w fun e w' => e = .returned (.int .i64 (if l - (n : Int) < 0 then -1 else l - (n : Int))) ∧ w = w' := by
  unfold maxLen at hn
  by_cases h : l - (n : Int) < 0
  · rw [if_pos h]
    go_enter Try.func51, Try.ntmps51
    go_wp2
    go_ret
    exact ⟨rfl, rfl⟩
  · rw [if_neg h]
    go_enter Try.func51, Try.ntmps51
    go_wp2
    go_ret
    exact ⟨rfl, rfl⟩

set_option maxHeartbeats 1000000 in
theorem szTable_any (a : Option Addr) (n c : Nat) (l : Int) (w : World) (hn : n ≤ maxLen) (h0 : 0 ≤ l) (h1 : l ≤ 1048576) :
    Calls Try.prog 11 #[.agg #[.slice a n c], .int .i64 l] w fun e w' => e = .returned (.int .i64 (if l - (n : Int) < 0 then -1 else l - (n : Int))) ∧ Below w.heap.size w w' := by
  by_cases h : l - (n : Int) < 0
  · rw [if_pos h]
    have H := szRouteS_any a n c l
    simp only [if_pos h] at H
    have hm : (-1 : Int) < 0 := by omega
    go_enter Try.func11, Try.ntmps11
    go_wp2_with (go_at_call 51; refine (H _ hn h0 h1).mono ?_; rintro e w' ⟨rfl, rfl⟩)
    go_ret
    exact ⟨rfl, by go_grown⟩
  · rw [if_neg h]
    have H := szRouteS_any a n c l
    simp only [if_neg h] at H
    go_enter Try.func11, Try.ntmps11
    go_wp2_with (go_at_call 51; refine (H _ hn h0 h1).mono ?_; rintro e w' ⟨rfl, rfl⟩)
    go_ret
    exact ⟨rfl, by go_grown⟩

set_option maxHeartbeats 1000000 in
theorem toTable_any (v : Value) (n : Nat) (Z : Nat → Int) (w : World) (hA : Arg 3 w v n Z) (hn : n ≤ 1048576) :
    Calls Try.prog 13 #[.agg #[v]] w fun e w' => ∃ rv, e = .returned (.agg #[rv]) ∧ Row 3 w' w.heap.size w'.heap.size rv n ((List.range (n * 3)).map Z) ∧ Below w.heap.size w w' := by
  have HA := Lib.hid hA
  obtain ⟨a, c, rfl⟩ := hA.slice
  clear hA
  go_enter Try.func13, Try.ntmps13
  go_wp2_with fail
  go_at_call 54
  refine (toRouteS_any _ n Z _ (HA.out.below (by go_grown)) hn).mono ?_
  rintro e w3 ⟨rv, rfl, hr, hb3⟩
  have HR := Lib.hid hr
  have hone : ∃ a c, rv = .slice a n c := hr.slice
  obtain ⟨a', c', rfl⟩ := hone
  clear hr
  obtain ⟨hc3, hf3⟩ := bcell hb3
  have hz3 := hb3.size
  simp at hz3
  have hB3 : Below w.heap.size w w3 := Below.trans (by go_grown) (hb3.mono (by first | omega | (simp <;> omega)))
  have k3_0_0 := hc3 (w.heap.size) 0 (by first | omega | (simp <;> omega))
  simp [go_sem] at k3_0_0
  have f3_0_0 := hf3 (w.heap.size) 0 (by first | omega | (simp <;> omega))
  simp [go_sem] at f3_0_0
  have k3_1_0 := hc3 (w.heap.size + 1) 0 (by first | omega | (simp <;> omega))
  simp [go_sem] at k3_1_0
  have f3_1_0 := hf3 (w.heap.size + 1) 0 (by first | omega | (simp <;> omega))
  simp [go_sem] at f3_1_0
  have k3_2_0 := hc3 (w.heap.size + 1 + 1) 0 (by first | omega | (simp <;> omega))
  simp [go_sem] at k3_2_0
  have f3_2_0 := hf3 (w.heap.size + 1 + 1) 0 (by first | omega | (simp <;> omega))
  simp [go_sem] at f3_2_0
  clear hc3 hf3
  go_wp2_with fail
  refine bodyPost_ret (v := .agg #[.slice a' n c']) (by simp [results, Try.results13, go_sem, *]) rfl ⟨_, rfl, ?_, ?_⟩
  · have hs := hb3.size
    simp at hs
    exact (((HR.out.setCell (.inl (by simp <;> omega)) _).setCell (.inl (by simp <;> omega)) _).wide (by simp <;> omega) (by simp [World.setCell]))
  · exact ((hB3.setCell (by simp <;> omega) _).setCell (by simp <;> omega) _)

set_option maxHeartbeats 1000000 in
theorem eqTable_same (Z : List Int) (n lo hi lo' hi' : Nat) (v v' : Value) (w : World) (hr : Row 3 w lo hi v n Z) (hr' : Row 3 w lo' hi' v' n Z) (hh : hi ≤ w.heap.size) (hh' : hi' ≤ w.heap.size) :
    Calls Try.prog 16 #[.agg #[v], .agg #[v']] w fun e w' => e = .returned (.bool true) ∧ Below w.heap.size w w' := by
  have HR := Lib.hid hr
  have HR' := Lib.hid hr'
  obtain ⟨a, c, rfl⟩ := hr.slice
  obtain ⟨a', c', rfl⟩ := hr'.slice
  clear hr hr'
  go_enter Try.func16, Try.ntmps16
  go_wp2_with fail
  go_at_call 59
  refine (eqRouteS_same Z n lo hi lo' hi' _ _ _ (HR.out.below (B := w.heap.size) (by go_grown) hh) (HR'.out.below (B := w.heap.size) (by go_grown) hh') (by simp; omega) (by simp; omega)).mono ?_
  rintro e w3 ⟨rfl, hb3⟩
  have hB : Below w.heap.size w w3 := Below.trans (by go_grown) (hb3.mono (by simp <;> omega))
  clear hb3
  go_wp2_with fail
  go_ret
  exact ⟨rfl, hB⟩

end Go.Proofs.Ytgdnfglhlpnooaa
