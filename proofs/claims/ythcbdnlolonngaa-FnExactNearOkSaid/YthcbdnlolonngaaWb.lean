/- DeadAt of the model and of the program as contracts. -/
import Derived.Test.YthcbdnlolonngaaWa
namespace Go.Proofs.Ythcbdnlolonngaa
open Go.RowKit

def deadI (s l k : Int) : Int := if nokB s l k = true ∧ s ≠ 0 ∧ l + 4 ≤ 1000000 then l + 4 else -1
theorem nokB_l {s l k : Int} (h : nokB s l k = true) : 0 ≤ l ∧ l ≤ 1000000 := by
  unfold nokB at h
  simp only [Bool.and_eq_true] at h
  exact of_decide_eq_true h.1.2

set_option maxHeartbeats 2000000 in
theorem sdead_any (s l k : Int) (w : World) :
    Calls Try.prog 8 #[.agg #[.int .i64 s, .int .i64 l, .int .i64 k]] w fun e w' => e = .returned (.int .i64 (deadI s l k)) ∧ Below w.heap.size w w' := by
  have hK0 := Below.refl (w.alloc (.cells #[.int .i64 s, .int .i64 l, .int .i64 k] 25)).heap.size (w.alloc (.cells #[.int .i64 s, .int .i64 l, .int .i64 k] 25))
  cases hn : nokB s l k
  · have e : deadI s l k = -1 := by unfold deadI; rw [if_neg (fun h => by rw [hn] at h; exact absurd h.1 (by simp))]
    rw [e]
    have HC := fun w => snok_any s l k w
    simp only [hn] at HC
    go_enter Try.func8, Try.ntmps8
    go_wp2_with ((go_at_call 5; refine (HC _).mono ?_; rintro e w2 ⟨rfl, hb⟩; have hK := chain (W0 := (w.alloc (.cells #[.int .i64 s, .int .i64 l, .int .i64 k] 25))) (by assumption) hb; clear hb; obtain ⟨hc2, hf2⟩ := bcell hK))
    go_ret
    exact ⟨rfl, unbox (by assumption)⟩
  · obtain ⟨l0, l1⟩ := nokB_l hn
    have HC := fun w => snok_any s l k w
    simp only [hn] at HC
    by_cases h0 : s = 0
    · have e : deadI s l k = -1 := by unfold deadI; rw [if_neg (fun h => h.2.1 h0)]
      rw [e]
      have h0' : (s == 0) = true := by rw [beq_iff_eq]; exact h0
      clear h0
      have e1 : IntKind.i64.wrap (l + 4) = l + 4 := IntWalk.i64_in _ (by omega)
      go_enter Try.func8, Try.ntmps8
      go_wp2_with ((go_at_call 5; refine (HC _).mono ?_; rintro e w2 ⟨rfl, hb⟩; have hK := chain (W0 := (w.alloc (.cells #[.int .i64 s, .int .i64 l, .int .i64 k] 25))) (by assumption) hb; clear hb; obtain ⟨hc2, hf2⟩ := bcell hK))
      go_ret
      exact ⟨rfl, unbox (by assumption)⟩
    · have h0' : (s == 0) = false := by rw [beq_eq_false_iff_ne]; exact h0
      have e1 : IntKind.i64.wrap (l + 4) = l + 4 := IntWalk.i64_in _ (by omega)
      by_cases h4 : l + 4 ≤ 1000000
      · have e : deadI s l k = l + 4 := by unfold deadI; rw [if_pos ⟨hn, h0, h4⟩]
        rw [e]
        go_enter Try.func8, Try.ntmps8
        go_wp2_with ((go_at_call 5; refine (HC _).mono ?_; rintro e w2 ⟨rfl, hb⟩; have hK := chain (W0 := (w.alloc (.cells #[.int .i64 s, .int .i64 l, .int .i64 k] 25))) (by assumption) hb; clear hb; obtain ⟨hc2, hf2⟩ := bcell hK))
        go_ret
        exact ⟨rfl, unbox (by assumption)⟩
      · have e : deadI s l k = -1 := by unfold deadI; rw [if_neg (fun h => h4 h.2.2)]
        rw [e]
        go_enter Try.func8, Try.ntmps8
        go_wp2_with ((go_at_call 5; refine (HC _).mono ?_; rintro e w2 ⟨rfl, hb⟩; have hK := chain (W0 := (w.alloc (.cells #[.int .i64 s, .int .i64 l, .int .i64 k] 25))) (by assumption) hb; clear hb; obtain ⟨hc2, hf2⟩ := bcell hK))
        go_ret
        exact ⟨rfl, unbox (by assumption)⟩

set_option maxHeartbeats 2000000 in
theorem idead_any (s l k : Int) (w : World) :
    Calls Try.prog 9 #[.agg #[.int .i64 s, .int .i64 l, .int .i64 k]] w fun e w' => e = .returned (.int .i64 (deadI s l k)) ∧ Below w.heap.size w w' := by
  have hK0 := Below.refl (w.alloc (.cells #[.int .i64 s, .int .i64 l, .int .i64 k] 25)).heap.size (w.alloc (.cells #[.int .i64 s, .int .i64 l, .int .i64 k] 25))
  cases hn : nokB s l k
  · have e : deadI s l k = -1 := by unfold deadI; rw [if_neg (fun h => by rw [hn] at h; exact absurd h.1 (by simp))]
    rw [e]
    have HC := fun w => inok_any s l k w
    simp only [hn] at HC
    go_enter Try.func9, Try.ntmps9
    go_wp2_with ((go_at_call 7; refine (HC _).mono ?_; rintro e w2 ⟨rfl, hb⟩; have hK := chain (W0 := (w.alloc (.cells #[.int .i64 s, .int .i64 l, .int .i64 k] 25))) (by assumption) hb; clear hb; obtain ⟨hc2, hf2⟩ := bcell hK))
    go_ret
    exact ⟨rfl, unbox (by assumption)⟩
  · obtain ⟨l0, l1⟩ := nokB_l hn
    have HC := fun w => inok_any s l k w
    simp only [hn] at HC
    by_cases h0 : s = 0
    · have e : deadI s l k = -1 := by unfold deadI; rw [if_neg (fun h => h.2.1 h0)]
      rw [e]
      have h0' : (s == 0) = true := by rw [beq_iff_eq]; exact h0
      clear h0
      have e1 : IntKind.i64.wrap (l + 4) = l + 4 := IntWalk.i64_in _ (by omega)
      go_enter Try.func9, Try.ntmps9
      go_wp2_with ((go_at_call 7; refine (HC _).mono ?_; rintro e w2 ⟨rfl, hb⟩; have hK := chain (W0 := (w.alloc (.cells #[.int .i64 s, .int .i64 l, .int .i64 k] 25))) (by assumption) hb; clear hb; obtain ⟨hc2, hf2⟩ := bcell hK))
      go_ret
      exact ⟨rfl, unbox (by assumption)⟩
    · have h0' : (s == 0) = false := by rw [beq_eq_false_iff_ne]; exact h0
      have e1 : IntKind.i64.wrap (l + 4) = l + 4 := IntWalk.i64_in _ (by omega)
      by_cases h4 : l + 4 ≤ 1000000
      · have e : deadI s l k = l + 4 := by unfold deadI; rw [if_pos ⟨hn, h0, h4⟩]
        rw [e]
        go_enter Try.func9, Try.ntmps9
        go_wp2_with ((go_at_call 7; refine (HC _).mono ?_; rintro e w2 ⟨rfl, hb⟩; have hK := chain (W0 := (w.alloc (.cells #[.int .i64 s, .int .i64 l, .int .i64 k] 25))) (by assumption) hb; clear hb; obtain ⟨hc2, hf2⟩ := bcell hK))
        go_ret
        exact ⟨rfl, unbox (by assumption)⟩
      · have e : deadI s l k = -1 := by unfold deadI; rw [if_neg (fun h => h4 h.2.2)]
        rw [e]
        go_enter Try.func9, Try.ntmps9
        go_wp2_with ((go_at_call 7; refine (HC _).mono ?_; rintro e w2 ⟨rfl, hb⟩; have hK := chain (W0 := (w.alloc (.cells #[.int .i64 s, .int .i64 l, .int .i64 k] 25))) (by assumption) hb; clear hb; obtain ⟨hc2, hf2⟩ := bcell hK))
        go_ret
        exact ⟨rfl, unbox (by assumption)⟩

end Go.Proofs.Ythcbdnlolonngaa
