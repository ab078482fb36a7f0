/- Halves of the model as contracts. -/
import Derived.Test.YtegffibamkaeiaaWc
namespace Go.Proofs.Ytegffibamkaeiaa
open Go.RowKit

/-- A boxed argument and two result cells, as they stand behind a call. -/
theorem cells3 {w w2 : World} {a0 a1 b0 b1 c0 c1 : Value} {T T' T'' : TypeId} (h : Below (((w.alloc (.cells #[a0, a1] T)).alloc (.cells #[b0, b1] T')).alloc (.cells #[c0, c1] T'')).heap.size (((w.alloc (.cells #[a0, a1] T)).alloc (.cells #[b0, b1] T')).alloc (.cells #[c0, c1] T'')) w2) :
    w2.cell? ⟨w.heap.size, 0, none⟩ = some a0 ∧ w2.cell? ⟨w.heap.size, 1, none⟩ = some a1 ∧ w2.cell? ⟨w.heap.size + 1, 0, none⟩ = some b0 ∧ w2.cell? ⟨w.heap.size + 1, 1, none⟩ = some b1 ∧
    w2.cell? ⟨w.heap.size + 1 + 1, 0, none⟩ = some c0 ∧ w2.cell? ⟨w.heap.size + 1 + 1, 1, none⟩ = some c1 ∧
    w2.frozen? ⟨w.heap.size + 1, 0, none⟩ = false ∧ w2.frozen? ⟨w.heap.size + 1, 1, none⟩ = false ∧ w2.frozen? ⟨w.heap.size + 1 + 1, 0, none⟩ = false ∧ w2.frozen? ⟨w.heap.size + 1 + 1, 1, none⟩ = false ∧ w.heap.size + 1 + 1 < w2.heap.size ∧ Below w.heap.size w w2 := by
  obtain ⟨hc, hf⟩ := bcell h
  have hz := h.size
  simp only [World.size_alloc] at hz
  refine ⟨?_, ?_, ?_, ?_, ?_, ?_, ?_, ?_, ?_, ?_, by omega, ((((Below.refl _ _).alloc (Nat.le_refl _) _).alloc (by simp) _).alloc (by simp; omega) _).trans (h.mono (by simp; omega))⟩
  all_goals first | (rw [hc _ _ (by simp <;> omega)]; simp [go_sem]; done) | (rw [hf _ _ (by simp <;> omega)]; simp [go_sem]; done)
theorem cells3_below {w w2 : World} {a0 a1 b0 b1 c0 c1 : Value} {T T' T'' : TypeId} (h : Below (((w.alloc (.cells #[a0, a1] T)).alloc (.cells #[b0, b1] T')).alloc (.cells #[c0, c1] T'')).heap.size (((w.alloc (.cells #[a0, a1] T)).alloc (.cells #[b0, b1] T')).alloc (.cells #[c0, c1] T'')) w2) (u0 u1 u2 u3 : Value) :
    Below w.heap.size w ((((w2.setCell ⟨w.heap.size + 1, 0, none⟩ u0).setCell ⟨w.heap.size + 1, 1, none⟩ u1).setCell ⟨w.heap.size + 1 + 1, 0, none⟩ u2).setCell ⟨w.heap.size + 1 + 1, 1, none⟩ u3) := by
  obtain ⟨_, _, _, _, _, _, _, _, _, _, _, hb⟩ := cells3 h
  exact (((hb.setCell (by simp) _).setCell (by simp) _).setCell (by simp; omega) _).setCell (by simp; omega) _

set_option maxHeartbeats 1000000 in
theorem sphalves_no (net n : Int) (w : World) (h : pokB net n = false ∨ n = 16) :
    Calls Try.prog 16 #[.agg #[.int .i64 net, .int .i64 n]] w fun e w' => e = .returned (.tuple #[.agg #[.int .i64 0, .int .i64 0], .agg #[.int .i64 0, .int .i64 0], .bool false]) ∧ Below w.heap.size w w' := by
  have hK0 := Below.refl (((w.alloc (.cells #[.int .i64 net, .int .i64 n] 25)).alloc (.cells #[.int .i64 0, .int .i64 0] 25)).alloc (.cells #[.int .i64 0, .int .i64 0] 25)).heap.size (((w.alloc (.cells #[.int .i64 net, .int .i64 n] 25)).alloc (.cells #[.int .i64 0, .int .i64 0] 25)).alloc (.cells #[.int .i64 0, .int .i64 0] 25))
  by_cases hp : pokB net n = true
  · have h16 : (n == 16) = true := by rw [beq_iff_eq]; rcases h with h | h; (rw [hp] at h; cases h); exact h
    clear h
    go_enter Try.func16, Try.ntmps16
    go_wp2_with (go_at_call 9; refine (spok_any _ _ _).mono ?_; rintro e w2 ⟨rfl, hb⟩; have hK := chain (W0 := (((w.alloc (.cells #[.int .i64 net, .int .i64 n] 25)).alloc (.cells #[.int .i64 0, .int .i64 0] 25)).alloc (.cells #[.int .i64 0, .int .i64 0] 25))) (by assumption) hb; clear hb; have hC := cells3 hK)
    refine bodyPost_ret (v := .tuple #[.agg #[.int .i64 0, .int .i64 0], .agg #[.int .i64 0, .int .i64 0], .bool false]) (by simp [results, Try.results16, go_sem, hC]) rfl ⟨rfl, ?_⟩
    exact cells3_below (by assumption) _ _ _ _
  · rw [Bool.not_eq_true] at hp
    clear h
    go_enter Try.func16, Try.ntmps16
    go_wp2_with (go_at_call 9; refine (spok_any _ _ _).mono ?_; rintro e w2 ⟨rfl, hb⟩; have hK := chain (W0 := (((w.alloc (.cells #[.int .i64 net, .int .i64 n] 25)).alloc (.cells #[.int .i64 0, .int .i64 0] 25)).alloc (.cells #[.int .i64 0, .int .i64 0] 25))) (by assumption) hb; clear hb; have hC := cells3 hK)
    refine bodyPost_ret (v := .tuple #[.agg #[.int .i64 0, .int .i64 0], .agg #[.int .i64 0, .int .i64 0], .bool false]) (by simp [results, Try.results16, go_sem, hC]) rfl ⟨rfl, ?_⟩
    exact cells3_below (by assumption) _ _ _ _

set_option maxHeartbeats 1000000 in
theorem sphalves_yes (net n : Int) (w : World) (h : pokB net n = true) (h16 : n < 16) :
    Calls Try.prog 16 #[.agg #[.int .i64 net, .int .i64 n]] w fun e w' => e = .returned (.tuple #[.agg #[.int .i64 net, .int .i64 (n + 1)], .agg #[.int .i64 (net + psz (n + 1)), .int .i64 (n + 1)], .bool true]) ∧ Below w.heap.size w w' := by
  have hK0 := Below.refl (((w.alloc (.cells #[.int .i64 net, .int .i64 n] 25)).alloc (.cells #[.int .i64 0, .int .i64 0] 25)).alloc (.cells #[.int .i64 0, .int .i64 0] 25)).heap.size (((w.alloc (.cells #[.int .i64 net, .int .i64 n] 25)).alloc (.cells #[.int .i64 0, .int .i64 0] 25)).alloc (.cells #[.int .i64 0, .int .i64 0] 25))
  obtain ⟨h0, h1, h2, h3, _⟩ := pokB_true h
  have hp := psz_pos (n + 1) (by omega) (by omega)
  have hq := psz_le (n + 1) (by omega) (by omega)
  have h16' : (n == 16) = false := by rw [beq_eq_false_iff_ne]; omega
  have e0 : IntKind.i64.wrap (n + 1) = n + 1 := IntWalk.i64_in _ (by omega)
  have e1 : IntKind.i64.wrap (net + psz (n + 1)) = net + psz (n + 1) := IntWalk.i64_in _ (by omega)
  go_enter Try.func16, Try.ntmps16
  go_wp2_with (go_at_call 9; refine (spok_any _ _ _).mono ?_; rintro e w2 ⟨rfl, hb⟩; have hK := chain (W0 := (((w.alloc (.cells #[.int .i64 net, .int .i64 n] 25)).alloc (.cells #[.int .i64 0, .int .i64 0] 25)).alloc (.cells #[.int .i64 0, .int .i64 0] 25))) (by assumption) hb; clear hb; have hC := cells3 hK)
  go_region_held3 (fun w' => w'.cell? ⟨w.heap.size, 0, none⟩ = some (.int .i64 net) ∧ w'.cell? ⟨w.heap.size, 1, none⟩ = some (.int .i64 n)) (first | assumption | (simp [hC, go_sem]; done)) (first | (go_at_call 25; refine (spsize_any _ _ (by omega) (by omega)).mono ?_; rintro e w3 ⟨rfl, rfl⟩))
  all_goals
    go_wp2_with fail
    refine bodyPost_ret (v := .tuple #[.agg #[.int .i64 net, .int .i64 (n + 1)], .agg #[.int .i64 (net + psz (n + 1)), .int .i64 (n + 1)], .bool true]) (by simp [results, Try.results16, go_sem, hC]) rfl ⟨rfl, ?_⟩
    exact (cells3_below (by assumption) _ _ _ _).drew

end Go.Proofs.Ytegffibamkaeiaa
