/- Halves of the program as contracts. -/
import Derived.Test.YtegffibamkaeiaaWd
namespace Go.Proofs.Ytegffibamkaeiaa
open Go.RowKit

set_option maxHeartbeats 1000000 in
theorem ihalves_any (net n : Int) (w : World) (h0 : 0 ≤ n) (h16 : n < 16) (h2 : 0 ≤ net) (h3 : net ≤ 65535) :
    Calls Try.prog 29 #[.agg #[.int .i64 net, .int .i64 n]] w fun e w' => e = .returned (.tuple #[.agg #[.int .i64 net, .int .i64 (n + 1)], .agg #[.int .i64 (net + psz (n + 1)), .int .i64 (n + 1)]]) ∧ Below w.heap.size w w' := by
  have hp := psz_pos (n + 1) (by omega) (by omega)
  have hq := psz_le (n + 1) (by omega) (by omega)
  have e0 : IntKind.i64.wrap (n + 1) = n + 1 := IntWalk.i64_in _ (by omega)
  have e1 : IntKind.i64.wrap (net + psz (n + 1)) = net + psz (n + 1) := IntWalk.i64_in _ (by omega)
  go_enter Try.func29, Try.ntmps29
  go_wp2_with fail
  go_region_held3 (fun w' => w'.cell? ⟨w.heap.size, 0, none⟩ = some (.int .i64 net) ∧ w'.cell? ⟨w.heap.size, 1, none⟩ = some (.int .i64 n) ∧ w'.cell? ⟨w.heap.size + 1 + 1 + 1, 0, none⟩ = some (.int .i64 net) ∧ w'.cell? ⟨w.heap.size + 1 + 1 + 1, 1, none⟩ = some (.int .i64 (n + 1))) (first | assumption | (simp [go_sem]; done) | (simp [*, go_sem]; done)) (first | (go_at_call 27; refine (size_any _ _ _ (by omega) (by omega)).mono ?_; rintro e w3 ⟨rfl, hb⟩; have hB : Below w.heap.size w w3 := Below.trans (by go_grown) (hb.mono (by simp <;> omega)); obtain ⟨hc3, hf3⟩ := bcell hb; have k0 := hc3 (w.heap.size) 0 (by simp <;> omega); have k1 := hc3 (w.heap.size) 1 (by simp <;> omega); have k2 := hc3 (w.heap.size + 1) 0 (by simp <;> omega); have k3 := hc3 (w.heap.size + 1) 1 (by simp <;> omega); have k4 := hc3 (w.heap.size + 1 + 1) 0 (by simp <;> omega); have k5 := hc3 (w.heap.size + 1 + 1) 1 (by simp <;> omega); have k6 := hc3 (w.heap.size + 1 + 1 + 1) 0 (by simp <;> omega); have k7 := hc3 (w.heap.size + 1 + 1 + 1) 1 (by simp <;> omega); have f0 := hf3 (w.heap.size + 1) 0 (by simp <;> omega); have f1 := hf3 (w.heap.size + 1) 1 (by simp <;> omega); have f2 := hf3 (w.heap.size + 1 + 1) 0 (by simp <;> omega); have f3 := hf3 (w.heap.size + 1 + 1) 1 (by simp <;> omega); simp [go_sem] at k0; simp [go_sem] at k1; simp [go_sem] at k2; simp [go_sem] at k3; simp [go_sem] at k4; simp [go_sem] at k5; simp [go_sem] at k6; simp [go_sem] at k7; simp [go_sem] at f0; simp [go_sem] at f1; simp [go_sem] at f2; simp [go_sem] at f3; clear hc3 hf3))
  all_goals
    go_wp2_with fail
    refine bodyPost_ret (v := .tuple #[.agg #[.int .i64 net, .int .i64 (n + 1)], .agg #[.int .i64 (net + psz (n + 1)), .int .i64 (n + 1)]]) (by simp [results, Try.results29, go_sem, *]) rfl ⟨rfl, ?_⟩
    exact (((hB.setCell (by simp) _).setCell (by simp) _).setCell (by simp <;> omega) _).setCell (by simp <;> omega) _

theorem cells3_apart {w w3 : World} {a0 a1 b0 b1 c0 c1 : Value} {T T' T'' : TypeId} (h : Below (((w.alloc (.cells #[a0, a1] T)).alloc (.cells #[b0, b1] T')).alloc (.cells #[c0, c1] T'')).heap.size (((w.alloc (.cells #[a0, a1] T)).alloc (.cells #[b0, b1] T')).alloc (.cells #[c0, c1] T'')) w3) :
    w.heap.size + 1 < w3.heap.size ∧ w.heap.size + 1 ≠ w3.heap.size ∧ w.heap.size + 1 + 1 ≠ w3.heap.size ∧ w.heap.size + 1 ≠ w3.heap.size + 1 ∧ w.heap.size + 1 + 1 ≠ w3.heap.size + 1 ∧ w.heap.size + 1 < w3.heap.size + 1 ∧ w.heap.size + 1 + 1 < w3.heap.size + 1 := by
  have hz := h.size
  simp only [World.size_alloc] at hz
  omega

theorem cells2 {w w2 : World} {a0 a1 b0 b1 : Value} {T T' : TypeId} (h : Below ((w.alloc (.cells #[a0, a1] T)).alloc (.cells #[b0, b1] T')).heap.size ((w.alloc (.cells #[a0, a1] T)).alloc (.cells #[b0, b1] T')) w2) :
    w2.cell? ⟨w.heap.size, 0, none⟩ = some a0 ∧ w2.cell? ⟨w.heap.size, 1, none⟩ = some a1 ∧ w2.cell? ⟨w.heap.size + 1, 0, none⟩ = some b0 ∧ w2.cell? ⟨w.heap.size + 1, 1, none⟩ = some b1 ∧
    w2.frozen? ⟨w.heap.size + 1, 0, none⟩ = false ∧ w2.frozen? ⟨w.heap.size + 1, 1, none⟩ = false ∧ w.heap.size + 1 < w2.heap.size ∧ Below w.heap.size w w2 := by
  obtain ⟨hc, hf⟩ := bcell h
  have hz := h.size
  simp only [World.size_alloc] at hz
  refine ⟨?_, ?_, ?_, ?_, ?_, ?_, by omega, (((Below.refl _ _).alloc (Nat.le_refl _) _).alloc (by simp) _).trans (h.mono (by simp; omega))⟩
  all_goals first | (rw [hc _ _ (by simp <;> omega)]; simp [go_sem]; done) | (rw [hf _ _ (by simp <;> omega)]; simp [go_sem]; done)

set_option maxHeartbeats 1000000 in
theorem halves_no (net n : Int) (w : World) (h : pokB net n = false ∨ n = 16) :
    Calls Try.prog 17 #[.agg #[.int .i64 net, .int .i64 n]] w fun e w' => e = .returned (.tuple #[.agg #[.int .i64 0, .int .i64 0], .agg #[.int .i64 0, .int .i64 0], .bool false]) ∧ Below w.heap.size w w' := by
  have hK0 := Below.refl (((w.alloc (.cells #[.int .i64 net, .int .i64 n] 25)).alloc (.cells #[.int .i64 0, .int .i64 0] 25)).alloc (.cells #[.int .i64 0, .int .i64 0] 25)).heap.size (((w.alloc (.cells #[.int .i64 net, .int .i64 n] 25)).alloc (.cells #[.int .i64 0, .int .i64 0] 25)).alloc (.cells #[.int .i64 0, .int .i64 0] 25))
  by_cases hp : pokB net n = true
  · have h16 : (n == 16) = true := by rw [beq_iff_eq]; rcases h with h | h; (rw [hp] at h; cases h); exact h
    clear h
    go_enter Try.func17, Try.ntmps17
    go_wp2_with (go_at_call 11; refine (pok_any _ _ _).mono ?_; rintro e w2 ⟨rfl, hb⟩; have hK := chain (W0 := (((w.alloc (.cells #[.int .i64 net, .int .i64 n] 25)).alloc (.cells #[.int .i64 0, .int .i64 0] 25)).alloc (.cells #[.int .i64 0, .int .i64 0] 25))) (by assumption) hb; clear hb; have hC := cells3 hK)
    refine bodyPost_ret (v := .tuple #[.agg #[.int .i64 0, .int .i64 0], .agg #[.int .i64 0, .int .i64 0], .bool false]) (by simp [results, Try.results17, go_sem, hC]) rfl ⟨rfl, ?_⟩
    exact cells3_below (by assumption) _ _ _ _
  · rw [Bool.not_eq_true] at hp
    clear h
    go_enter Try.func17, Try.ntmps17
    go_wp2_with (go_at_call 11; refine (pok_any _ _ _).mono ?_; rintro e w2 ⟨rfl, hb⟩; have hK := chain (W0 := (((w.alloc (.cells #[.int .i64 net, .int .i64 n] 25)).alloc (.cells #[.int .i64 0, .int .i64 0] 25)).alloc (.cells #[.int .i64 0, .int .i64 0] 25))) (by assumption) hb; clear hb; have hC := cells3 hK)
    refine bodyPost_ret (v := .tuple #[.agg #[.int .i64 0, .int .i64 0], .agg #[.int .i64 0, .int .i64 0], .bool false]) (by simp [results, Try.results17, go_sem, hC]) rfl ⟨rfl, ?_⟩
    exact cells3_below (by assumption) _ _ _ _

set_option maxHeartbeats 1000000 in
theorem halves_yes (net n : Int) (w : World) (h : pokB net n = true) (h16 : n < 16) :
    Calls Try.prog 17 #[.agg #[.int .i64 net, .int .i64 n]] w fun e w' => e = .returned (.tuple #[.agg #[.int .i64 net, .int .i64 (n + 1)], .agg #[.int .i64 (net + psz (n + 1)), .int .i64 (n + 1)], .bool true]) ∧ Below w.heap.size w w' := by
  have hK0 := Below.refl (((w.alloc (.cells #[.int .i64 net, .int .i64 n] 25)).alloc (.cells #[.int .i64 0, .int .i64 0] 25)).alloc (.cells #[.int .i64 0, .int .i64 0] 25)).heap.size (((w.alloc (.cells #[.int .i64 net, .int .i64 n] 25)).alloc (.cells #[.int .i64 0, .int .i64 0] 25)).alloc (.cells #[.int .i64 0, .int .i64 0] 25))
  obtain ⟨h0, h1, h2, h3, _⟩ := pokB_true h
  have h16' : (n == 16) = false := by rw [beq_eq_false_iff_ne]; omega
  go_enter Try.func17, Try.ntmps17
  go_wp2_with (first | (go_at_call 11; refine (pok_any _ _ _).mono ?_; rintro e w2 ⟨rfl, hb⟩; have hK := chain (W0 := (((w.alloc (.cells #[.int .i64 net, .int .i64 n] 25)).alloc (.cells #[.int .i64 0, .int .i64 0] 25)).alloc (.cells #[.int .i64 0, .int .i64 0] 25))) (by assumption) hb; clear hb; have hC := cells3 hK) | (go_at_call 29; refine (ihalves_any _ _ _ h0 h16 h2 h3).mono ?_; rintro e w3 ⟨rfl, hb⟩; have hK := chain (W0 := (((w.alloc (.cells #[.int .i64 net, .int .i64 n] 25)).alloc (.cells #[.int .i64 0, .int .i64 0] 25)).alloc (.cells #[.int .i64 0, .int .i64 0] 25))) (by assumption) hb; clear hb; have hC3 := cells3 hK; have hM := cells3_apart hK))
  go_region
  all_goals
    go_wp2_with fail
    refine bodyPost_ret (v := .tuple #[.agg #[.int .i64 net, .int .i64 (n + 1)], .agg #[.int .i64 (net + psz (n + 1)), .int .i64 (n + 1)], .bool true]) (by simp [results, Try.results17, go_sem, *]) rfl ⟨rfl, ?_⟩
    exact (((cells3_below hK _ _ _ _).alloc (by simp <;> omega) _).alloc (by simp <;> omega) _).drew

set_option maxHeartbeats 1000000 in
theorem eqP_same (net n : Int) (w : World) :
    Calls Try.prog 18 #[.agg #[.int .i64 net, .int .i64 n], .agg #[.int .i64 net, .int .i64 n]] w fun e w' => e = .returned (.bool true) ∧ Below w.heap.size w w' := by
  go_enter Try.func18, Try.ntmps18
  go_wp2_with fail
  go_ret
  exact ⟨rfl, (((Below.refl _ _).alloc (Nat.le_refl _) _).alloc (by simp) _)⟩

end Go.Proofs.Ytegffibamkaeiaa
