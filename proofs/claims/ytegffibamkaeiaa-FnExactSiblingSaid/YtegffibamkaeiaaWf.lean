/- Sibling of the model and of the program as contracts. -/
import Derived.Test.YtegffibamkaeiaaWe
namespace Go.Proofs.Ytegffibamkaeiaa
open Go.RowKit

theorem cells2_below {w w2 : World} {a0 a1 b0 b1 : Value} {T T' : TypeId} (h : Below ((w.alloc (.cells #[a0, a1] T)).alloc (.cells #[b0, b1] T')).heap.size ((w.alloc (.cells #[a0, a1] T)).alloc (.cells #[b0, b1] T')) w2) (u0 u1 : Value) :
    Below w.heap.size w ((w2.setCell ⟨w.heap.size + 1, 0, none⟩ u0).setCell ⟨w.heap.size + 1, 1, none⟩ u1) := by
  obtain ⟨_, _, _, _, _, _, _, hb⟩ := cells2 h
  exact (hb.setCell (by simp) _).setCell (by simp) _

set_option maxHeartbeats 1000000 in
theorem spsib_no (net n : Int) (w : World) (h : pokB net n = false ∨ n = 0) :
    Calls Try.prog 19 #[.agg #[.int .i64 net, .int .i64 n]] w fun e w' => e = .returned (.tuple #[.agg #[.int .i64 0, .int .i64 0], .bool false]) ∧ Below w.heap.size w w' := by
  have hK0 := Below.refl ((w.alloc (.cells #[.int .i64 net, .int .i64 n] 25)).alloc (.cells #[.int .i64 0, .int .i64 0] 25)).heap.size ((w.alloc (.cells #[.int .i64 net, .int .i64 n] 25)).alloc (.cells #[.int .i64 0, .int .i64 0] 25))
  by_cases hp : pokB net n = true
  · have h16 : (n == 0) = true := by rw [beq_iff_eq]; rcases h with h | h; (rw [hp] at h; cases h); exact h
    clear h
    go_enter Try.func19, Try.ntmps19
    go_wp2_with (go_at_call 9; refine (spok_any _ _ _).mono ?_; rintro e w2 ⟨rfl, hb⟩; have hK := chain (W0 := ((w.alloc (.cells #[.int .i64 net, .int .i64 n] 25)).alloc (.cells #[.int .i64 0, .int .i64 0] 25))) (by assumption) hb; clear hb; have hC := cells2 hK)
    refine bodyPost_ret (v := .tuple #[.agg #[.int .i64 0, .int .i64 0], .bool false]) (by simp [results, Try.results19, go_sem, hC]) rfl ⟨rfl, ?_⟩
    exact cells2_below (by assumption) _ _
  · rw [Bool.not_eq_true] at hp
    clear h
    go_enter Try.func19, Try.ntmps19
    go_wp2_with (go_at_call 9; refine (spok_any _ _ _).mono ?_; rintro e w2 ⟨rfl, hb⟩; have hK := chain (W0 := ((w.alloc (.cells #[.int .i64 net, .int .i64 n] 25)).alloc (.cells #[.int .i64 0, .int .i64 0] 25))) (by assumption) hb; clear hb; have hC := cells2 hK)
    refine bodyPost_ret (v := .tuple #[.agg #[.int .i64 0, .int .i64 0], .bool false]) (by simp [results, Try.results19, go_sem, hC]) rfl ⟨rfl, ?_⟩
    exact cells2_below (by assumption) _ _

set_option maxHeartbeats 1000000 in
theorem sib_no (net n : Int) (w : World) (h : pokB net n = false ∨ n = 0) :
    Calls Try.prog 20 #[.agg #[.int .i64 net, .int .i64 n]] w fun e w' => e = .returned (.tuple #[.agg #[.int .i64 0, .int .i64 0], .bool false]) ∧ Below w.heap.size w w' := by
  have hK0 := Below.refl ((w.alloc (.cells #[.int .i64 net, .int .i64 n] 25)).alloc (.cells #[.int .i64 0, .int .i64 0] 25)).heap.size ((w.alloc (.cells #[.int .i64 net, .int .i64 n] 25)).alloc (.cells #[.int .i64 0, .int .i64 0] 25))
  by_cases hp : pokB net n = true
  · have h16 : (n == 0) = true := by rw [beq_iff_eq]; rcases h with h | h; (rw [hp] at h; cases h); exact h
    clear h
    go_enter Try.func20, Try.ntmps20
    go_wp2_with (go_at_call 11; refine (pok_any _ _ _).mono ?_; rintro e w2 ⟨rfl, hb⟩; have hK := chain (W0 := ((w.alloc (.cells #[.int .i64 net, .int .i64 n] 25)).alloc (.cells #[.int .i64 0, .int .i64 0] 25))) (by assumption) hb; clear hb; have hC := cells2 hK)
    refine bodyPost_ret (v := .tuple #[.agg #[.int .i64 0, .int .i64 0], .bool false]) (by simp [results, Try.results20, go_sem, hC]) rfl ⟨rfl, ?_⟩
    exact cells2_below (by assumption) _ _
  · rw [Bool.not_eq_true] at hp
    clear h
    go_enter Try.func20, Try.ntmps20
    go_wp2_with (go_at_call 11; refine (pok_any _ _ _).mono ?_; rintro e w2 ⟨rfl, hb⟩; have hK := chain (W0 := ((w.alloc (.cells #[.int .i64 net, .int .i64 n] 25)).alloc (.cells #[.int .i64 0, .int .i64 0] 25))) (by assumption) hb; clear hb; have hC := cells2 hK)
    refine bodyPost_ret (v := .tuple #[.agg #[.int .i64 0, .int .i64 0], .bool false]) (by simp [results, Try.results20, go_sem, hC]) rfl ⟨rfl, ?_⟩
    exact cells2_below (by assumption) _ _

set_option maxHeartbeats 1000000 in
theorem spsib_yes (net n : Int) (w : World) (h : pokB net n = true) (hn : 0 < n) :
    Calls Try.prog 19 #[.agg #[.int .i64 net, .int .i64 n]] w fun e w' => e = .returned (.tuple #[.agg #[.int .i64 (bits .xor .i64 net (psz n)), .int .i64 n], .bool true]) ∧ Below w.heap.size w w' := by
  have hK0 := Below.refl ((w.alloc (.cells #[.int .i64 net, .int .i64 n] 25)).alloc (.cells #[.int .i64 0, .int .i64 0] 25)).heap.size ((w.alloc (.cells #[.int .i64 net, .int .i64 n] 25)).alloc (.cells #[.int .i64 0, .int .i64 0] 25))
  obtain ⟨h0, h1, h2, h3, _⟩ := pokB_true h
  have hn' : (n == 0) = false := by rw [beq_eq_false_iff_ne]; omega
  go_enter Try.func19, Try.ntmps19
  go_wp2_with (go_at_call 9; refine (spok_any _ _ _).mono ?_; rintro e w2 ⟨rfl, hb⟩; have hK := chain (W0 := ((w.alloc (.cells #[.int .i64 net, .int .i64 n] 25)).alloc (.cells #[.int .i64 0, .int .i64 0] 25))) (by assumption) hb; clear hb; have hC := cells2 hK)
  go_region_held3 (fun w' => w'.cell? ⟨w.heap.size, 0, none⟩ = some (.int .i64 net) ∧ w'.cell? ⟨w.heap.size, 1, none⟩ = some (.int .i64 n)) (first | assumption | (simp [hC, go_sem]; done) | (simp [*, go_sem]; done)) (first | (go_at_call 25; refine (spsize_any _ _ (by omega) (by omega)).mono ?_; rintro e w3 ⟨rfl, rfl⟩))
  all_goals
    go_wp2_with fail
    refine bodyPost_ret (v := .tuple #[.agg #[.int .i64 (bits .xor .i64 net (psz n)), .int .i64 n], .bool true]) (by simp [results, Try.results19, go_sem, *]) rfl ⟨rfl, ?_⟩
    first | exact (cells2_below (by assumption) _ _).drew | exact (hB.setCell (by simp) _).setCell (by simp) _

set_option maxHeartbeats 1000000 in
theorem sib_yes (net n : Int) (w : World) (h : pokB net n = true) (hn : 0 < n) :
    Calls Try.prog 20 #[.agg #[.int .i64 net, .int .i64 n]] w fun e w' => e = .returned (.tuple #[.agg #[.int .i64 (bits .xor .i64 net (psz n)), .int .i64 n], .bool true]) ∧ Below w.heap.size w w' := by
  have hK0 := Below.refl ((w.alloc (.cells #[.int .i64 net, .int .i64 n] 25)).alloc (.cells #[.int .i64 0, .int .i64 0] 25)).heap.size ((w.alloc (.cells #[.int .i64 net, .int .i64 n] 25)).alloc (.cells #[.int .i64 0, .int .i64 0] 25))
  obtain ⟨h0, h1, h2, h3, _⟩ := pokB_true h
  have hn' : (n == 0) = false := by rw [beq_eq_false_iff_ne]; omega
  go_enter Try.func20, Try.ntmps20
  go_wp2_with (go_at_call 11; refine (pok_any _ _ _).mono ?_; rintro e w2 ⟨rfl, hb⟩; have hK := chain (W0 := ((w.alloc (.cells #[.int .i64 net, .int .i64 n] 25)).alloc (.cells #[.int .i64 0, .int .i64 0] 25))) (by assumption) hb; clear hb; have hC := cells2 hK)
  go_region_held3 (fun w' => w'.cell? ⟨w.heap.size, 0, none⟩ = some (.int .i64 net) ∧ w'.cell? ⟨w.heap.size, 1, none⟩ = some (.int .i64 n)) (first | assumption | (simp [hC, go_sem]; done) | (simp [*, go_sem]; done)) (first | (go_at_call 27; refine (size_any _ _ _ (by omega) (by omega)).mono ?_; rintro e w3 ⟨rfl, hb⟩; have hz := hC.2.2.2.2.2.2.1; have hB : Below w.heap.size w w3 := Below.trans hC.2.2.2.2.2.2.2.drew (hb.mono (by first | omega | (simp <;> omega))); obtain ⟨hc3, hf3⟩ := bcell hb; have k0_0 := hc3 (w.heap.size) 0 (by first | omega | (simp <;> omega)); simp [go_sem, hC] at k0_0; have k0_1 := hc3 (w.heap.size) 1 (by first | omega | (simp <;> omega)); simp [go_sem, hC] at k0_1; have k1_0 := hc3 (w.heap.size + 1) 0 (by first | omega | (simp <;> omega)); simp [go_sem, hC] at k1_0; have k1_1 := hc3 (w.heap.size + 1) 1 (by first | omega | (simp <;> omega)); simp [go_sem, hC] at k1_1; have f0 := hf3 (w.heap.size + 1) 0 (by first | omega | (simp <;> omega)); simp [go_sem, hC] at f0; have f1 := hf3 (w.heap.size + 1) 1 (by first | omega | (simp <;> omega)); simp [go_sem, hC] at f1; clear hc3 hf3 hb))
  all_goals
    go_wp2_with fail
    refine bodyPost_ret (v := .tuple #[.agg #[.int .i64 (bits .xor .i64 net (psz n)), .int .i64 n], .bool true]) (by simp [results, Try.results20, go_sem, *]) rfl ⟨rfl, ?_⟩
    first | exact (cells2_below (by assumption) _ _).drew | exact (hB.setCell (by simp) _).setCell (by simp) _

end Go.Proofs.Ytegffibamkaeiaa
