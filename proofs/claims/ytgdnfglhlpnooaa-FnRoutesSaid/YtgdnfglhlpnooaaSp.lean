/- HasAddr and Halves of the model as contracts. -/
import Derived.Test.YtgdnfglhlpnooaaWb
import Derived.Test.YtgdnfglhlpnooaaReg
import Derived.Test.YtgdnfglhlpnooaaPa
namespace Go.Proofs.Ytgdnfglhlpnooaa
open Go.RowKit

set_option maxHeartbeats 1000000 in
theorem sphas_yes (net n a : Int) (w : World) (h : pokB net n = true) :
    Calls Try.prog 27 #[.agg #[.int .i64 net, .int .i64 n], .int .i64 a] w fun e w' => e = .returned (.bool (inB a net (net + psz n - 1))) ∧ Below w.heap.size w w' := by
  obtain ⟨h0, h1, h2, h3, _⟩ := pokB_true h
  have hp := psz_pos n h0 h1
  have hq := psz_le n h0 h1
  have e1 : IntKind.i64.wrap (net + psz n) = net + psz n := IntWalk.i64_in _ (by omega)
  have e2 : IntKind.i64.wrap (net + psz n - 1) = net + psz n - 1 := IntWalk.i64_in _ (by omega)
  go_enter Try.func27, Try.ntmps27
  go_wp2_with fail
  go_region_held3 (fun w' => w'.cell? ⟨w.heap.size, 0, none⟩ = some (.int .i64 net) ∧ w'.cell? ⟨w.heap.size, 1, none⟩ = some (.int .i64 n) ∧ w.heap.size < w'.heap.size ∧ Below w.heap.size w w') (first | assumption | exact box_keep0 _ _ _ _ | exact box_keep (by assumption) (by assumption))
    (first | (go_at_call 69; refine (spok_any _ _ _).mono ?_; rintro e w2 ⟨rfl, hb⟩) | (go_at_call 71; refine (spsize_any _ _ h0 h1).mono ?_; rintro e w2 ⟨rfl, rfl⟩) | (go_at_call 70; refine (in_any _ _ _ _).mono ?_; rintro e w2 ⟨rfl, rfl⟩))
  go_wp2_with fail
  go_ret
  exact ⟨rfl, box_below (by assumption)⟩

set_option maxHeartbeats 1000000 in
theorem sphas_no (net n a : Int) (w : World) (h : pokB net n = false) :
    Calls Try.prog 27 #[.agg #[.int .i64 net, .int .i64 n], .int .i64 a] w fun e w' => e = .returned (.bool false) ∧ Below w.heap.size w w' := by
  go_enter Try.func27, Try.ntmps27
  go_wp2_with fail
  refine wp_region_held_drew (S := (fun w' => w'.cell? ⟨w.heap.size, 0, none⟩ = some (.int .i64 net) ∧ w'.cell? ⟨w.heap.size, 1, none⟩ = some (.int .i64 n) ∧ w.heap.size < w'.heap.size ∧ Below w.heap.size w w')) (by kernel_rfl) ?_ (fun hHeld => ?_)
  · first | assumption | exact box_keep0 _ _ _ _ | exact box_keep (by assumption) (by assumption)
  refine step_read 0 5 rfl rfl (by kernel_rfl) (by kernel_rfl) (by kernel_rfl) (fun _ _ _ h => h) (by rfl) (v := ?_) (fun w hSw => ?_) (by assumption) ?_; rotate_left; (focus ((try dsimp only at hSw); go_simp; first | done | exact rfl)); simp only [List.set]
  (refine wpAnyH_ready (rs := [1]) (by kernel_rfl) (by simp) ?_; refine AllReadyH.cons rfl (fun K hK => ?_) AllReadyH.nil; go_simp; (go_at_call 69; refine (spok_any _ _ _).mono ?_; rintro e w2 ⟨rfl, hb⟩; try rw [h]); refine hK.out _ _ ?_ (fun hHeld => ?_); (focus (first | assumption | exact box_keep0 _ _ _ _ | exact box_keep (by assumption) (by assumption))); clear hK K)
  refine step_read 2 7 rfl rfl (by kernel_rfl) (by kernel_rfl) (by kernel_rfl) (fun _ _ _ h => h) (by rfl) (v := ?_) (fun w hSw => ?_) (by assumption) ?_; rotate_left; (focus ((try dsimp only at hSw); go_simp; first | done | exact rfl)); simp only [List.set]
  refine step_skip 3 8 rfl rfl (by kernel_rfl) (by kernel_rfl) (by kernel_rfl) (fun _ _ _ h => h) (by rfl) (by assumption) ?_; simp only [List.set]
  refine step_skip 4 9 rfl rfl (by kernel_rfl) (by kernel_rfl) (by kernel_rfl) (fun _ _ _ h => h) (by rfl) (by assumption) ?_; simp only [List.set]
  refine step_skip 5 10 rfl rfl (by kernel_rfl) (by kernel_rfl) (by kernel_rfl) (fun _ _ _ h => h) (by rfl) (by assumption) ?_; simp only [List.set]
  refine step_skip 6 11 rfl rfl (by kernel_rfl) (by kernel_rfl) (by kernel_rfl) (fun _ _ _ h => h) (by rfl) (by assumption) ?_; simp only [List.set]
  refine step_skip 7 12 rfl rfl (by kernel_rfl) (by kernel_rfl) (by kernel_rfl) (fun _ _ _ h => h) (by rfl) (by assumption) ?_; simp only [List.set]
  refine step_skip 8 13 rfl rfl (by kernel_rfl) (by kernel_rfl) (by kernel_rfl) (fun _ _ _ h => h) (by rfl) (by assumption) ?_; simp only [List.set]
  refine step_skip 9 14 rfl rfl (by kernel_rfl) (by kernel_rfl) (by kernel_rfl) (fun _ _ _ h => h) (by rfl) (by assumption) ?_; simp only [List.set]
  refine step_skip 10 15 rfl rfl (by kernel_rfl) (by kernel_rfl) (by kernel_rfl) (fun _ _ _ h => h) (by rfl) (by assumption) ?_; simp only [List.set]
  refine step_skip 11 16 rfl rfl (by kernel_rfl) (by kernel_rfl) (by kernel_rfl) (fun _ _ _ h => h) (by rfl) (by assumption) ?_; simp only [List.set]
  refine step_skip 12 17 rfl rfl (by kernel_rfl) (by kernel_rfl) (by kernel_rfl) (fun _ _ _ h => h) (by rfl) (by assumption) ?_; simp only [List.set]
  refine step_skip 13 18 rfl rfl (by kernel_rfl) (by kernel_rfl) (by kernel_rfl) (fun _ _ _ h => h) (by rfl) (by assumption) ?_; simp only [List.set]
  refine step_read 14 19 rfl rfl (by kernel_rfl) (by kernel_rfl) (by kernel_rfl) (fun _ _ _ h => h) (by rfl) (v := ?_) (fun w hSw => ?_) (by assumption) ?_; rotate_left; (focus ((try dsimp only at hSw); go_simp; first | done | exact rfl)); simp only [List.set]
  refine step_read 15 4 rfl rfl (by kernel_rfl) (by kernel_rfl) (by kernel_rfl) (fun _ _ _ h => h) (by rfl) (v := ?_) (fun w hSw => ?_) (by assumption) ?_; rotate_left; (focus ((try dsimp only at hSw); go_simp; first | done | exact rfl)); simp only [List.set]
  refine wpAnyH_done (by kernel_rfl) ?_ _
  go_wp2_with fail
  go_ret
  exact ⟨rfl, box_below (by assumption)⟩

theorem sphas_any (net n a : Int) (w : World) :
    Calls Try.prog 27 #[.agg #[.int .i64 net, .int .i64 n], .int .i64 a] w fun e w' => e = .returned (.bool (hasB net n a)) ∧ Below w.heap.size w w' := by
  unfold hasB
  by_cases h : pokB net n = true
  · rw [h, Bool.true_and]; exact sphas_yes net n a w h
  · rw [Bool.not_eq_true] at h; rw [h, Bool.false_and]; exact sphas_no net n a w h

/-- A boxed argument and two result cells, as they stand behind a call. -/
theorem cells3 {w w2 : World} {a0 a1 b0 b1 c0 c1 : Value} {T T' T'' : TypeId} (h : Below (((w.alloc (.cells #[a0, a1] T)).alloc (.cells #[b0, b1] T')).alloc (.cells #[c0, c1] T'')).heap.size (((w.alloc (.cells #[a0, a1] T)).alloc (.cells #[b0, b1] T')).alloc (.cells #[c0, c1] T'')) w2) :
    w2.cell? ⟨w.heap.size, 0, none⟩ = some a0 ∧ w2.cell? ⟨w.heap.size, 1, none⟩ = some a1 ∧ w2.cell? ⟨w.heap.size + 1, 0, none⟩ = some b0 ∧ w2.cell? ⟨w.heap.size + 1, 1, none⟩ = some b1 ∧
    w2.cell? ⟨w.heap.size + 1 + 1, 0, none⟩ = some c0 ∧ w2.cell? ⟨w.heap.size + 1 + 1, 1, none⟩ = some c1 ∧
    w2.frozen? ⟨w.heap.size + 1, 0, none⟩ = false ∧ w2.frozen? ⟨w.heap.size + 1, 1, none⟩ = false ∧ w2.frozen? ⟨w.heap.size + 1 + 1, 0, none⟩ = false ∧ w2.frozen? ⟨w.heap.size + 1 + 1, 1, none⟩ = false ∧ w.heap.size + 1 + 1 < w2.heap.size ∧ Below w.heap.size w w2 := by
  obtain ⟨hc, hf⟩ := bcell h
  have hz := h.size
  simp only [World.size_alloc] at hz
  refine ⟨?_, ?_, ?_, ?_, ?_, ?_, ?_, ?_, ?_, ?_, by omega, ((((Below.refl _ _).alloc (Nat.le_refl _) _).alloc (by simp) _).alloc (by simp; omega) _).trans (h.mono (by simp; omega))⟩
  all_goals first | (rw [hc _ _ (by simp <;> omega)]; simp [go_sem]; done) | (rw [hf _ _ (by simp <;> omega)]; simp [go_sem]; done)
theorem cells3_below {w w2 : World} {a0 a1 b0 b1 c0 c1 : Value} {T T' T'' : TypeId} (h : Below (((w.alloc (.cells #[a0, a1] T)).alloc (.cells #[b0, b1] T')).alloc (.cells #[c0, c1] T'')).heap.size (((w.alloc (.cells #[a0, a1] T)).alloc (.cells #[b0, b1] T')).alloc (.cells #[c0, c1] T'')) w2) (u0 u1 u2 u3 : Value) :
    Below w.heap.size w ((((w2.setCell ⟨w.heap.size + 1, 0, none⟩ u0).setCell ⟨w.heap.size + 1, 1, none⟩ u1).setCell ⟨w.heap.size + 1 + 1, 0, none⟩ u2).setCell ⟨w.heap.size + 1 + 1, 1, none⟩ u3) := by
  obtain ⟨_, _, _, _, _, _, _, _, _, _, _, hb⟩ := cells3 h
  exact (((hb.setCell (by simp) _).setCell (by simp) _).setCell (by simp; omega) _).setCell (by simp; omega) _

set_option maxHeartbeats 1000000 in
theorem sphalves_no (net n : Int) (w : World) (h : pokB net n = false ∨ n = 16) :
    Calls Try.prog 119 #[.agg #[.int .i64 net, .int .i64 n]] w fun e w' => e = .returned (.tuple #[.agg #[.int .i64 0, .int .i64 0], .agg #[.int .i64 0, .int .i64 0], .bool false]) ∧ Below w.heap.size w w' := by
  have hK0 := Below.refl (((w.alloc (.cells #[.int .i64 net, .int .i64 n] 34)).alloc (.cells #[.int .i64 0, .int .i64 0] 34)).alloc (.cells #[.int .i64 0, .int .i64 0] 34)).heap.size (((w.alloc (.cells #[.int .i64 net, .int .i64 n] 34)).alloc (.cells #[.int .i64 0, .int .i64 0] 34)).alloc (.cells #[.int .i64 0, .int .i64 0] 34))
  by_cases hp : pokB net n = true
  · have h16 : (n == 16) = true := by rw [beq_iff_eq]; rcases h with h | h; (rw [hp] at h; cases h); exact h
    clear h
    go_enter Try.func119, Try.ntmps119
    go_wp2_with (go_at_call 69; refine (spok_any _ _ _).mono ?_; rintro e w2 ⟨rfl, hb⟩; have hK := chain (W0 := (((w.alloc (.cells #[.int .i64 net, .int .i64 n] 34)).alloc (.cells #[.int .i64 0, .int .i64 0] 34)).alloc (.cells #[.int .i64 0, .int .i64 0] 34))) (by assumption) hb; clear hb; have hC := cells3 hK)
    refine bodyPost_ret (v := .tuple #[.agg #[.int .i64 0, .int .i64 0], .agg #[.int .i64 0, .int .i64 0], .bool false]) (by simp [results, Try.results119, go_sem, hC]) rfl ⟨rfl, ?_⟩
    exact cells3_below (by assumption) _ _ _ _
  · rw [Bool.not_eq_true] at hp
    clear h
    go_enter Try.func119, Try.ntmps119
    go_wp2_with (go_at_call 69; refine (spok_any _ _ _).mono ?_; rintro e w2 ⟨rfl, hb⟩; have hK := chain (W0 := (((w.alloc (.cells #[.int .i64 net, .int .i64 n] 34)).alloc (.cells #[.int .i64 0, .int .i64 0] 34)).alloc (.cells #[.int .i64 0, .int .i64 0] 34))) (by assumption) hb; clear hb; have hC := cells3 hK)
    refine bodyPost_ret (v := .tuple #[.agg #[.int .i64 0, .int .i64 0], .agg #[.int .i64 0, .int .i64 0], .bool false]) (by simp [results, Try.results119, go_sem, hC]) rfl ⟨rfl, ?_⟩
    exact cells3_below (by assumption) _ _ _ _

set_option maxHeartbeats 1000000 in
theorem sphalves_yes (net n : Int) (w : World) (h : pokB net n = true) (h16 : n < 16) :
    Calls Try.prog 119 #[.agg #[.int .i64 net, .int .i64 n]] w fun e w' => e = .returned (.tuple #[.agg #[.int .i64 net, .int .i64 (n + 1)], .agg #[.int .i64 (net + psz (n + 1)), .int .i64 (n + 1)], .bool true]) ∧ Below w.heap.size w w' := by
  have hK0 := Below.refl (((w.alloc (.cells #[.int .i64 net, .int .i64 n] 34)).alloc (.cells #[.int .i64 0, .int .i64 0] 34)).alloc (.cells #[.int .i64 0, .int .i64 0] 34)).heap.size (((w.alloc (.cells #[.int .i64 net, .int .i64 n] 34)).alloc (.cells #[.int .i64 0, .int .i64 0] 34)).alloc (.cells #[.int .i64 0, .int .i64 0] 34))
  obtain ⟨h0, h1, h2, h3, _⟩ := pokB_true h
  have hp := psz_pos (n + 1) (by omega) (by omega)
  have hq := psz_le (n + 1) (by omega) (by omega)
  have h16' : (n == 16) = false := by rw [beq_eq_false_iff_ne]; omega
  have e0 : IntKind.i64.wrap (n + 1) = n + 1 := IntWalk.i64_in _ (by omega)
  have e1 : IntKind.i64.wrap (net + psz (n + 1)) = net + psz (n + 1) := IntWalk.i64_in _ (by omega)
  go_enter Try.func119, Try.ntmps119
  go_wp2_with (go_at_call 69; refine (spok_any _ _ _).mono ?_; rintro e w2 ⟨rfl, hb⟩; have hK := chain (W0 := (((w.alloc (.cells #[.int .i64 net, .int .i64 n] 34)).alloc (.cells #[.int .i64 0, .int .i64 0] 34)).alloc (.cells #[.int .i64 0, .int .i64 0] 34))) (by assumption) hb; clear hb; have hC := cells3 hK)
  go_region_held3 (fun w' => w'.cell? ⟨w.heap.size, 0, none⟩ = some (.int .i64 net) ∧ w'.cell? ⟨w.heap.size, 1, none⟩ = some (.int .i64 n)) (first | assumption | (simp [hC, go_sem]; done)) (first | (go_at_call 71; refine (spsize_any _ _ (by omega) (by omega)).mono ?_; rintro e w3 ⟨rfl, rfl⟩))
  all_goals
    go_wp2_with fail
    refine bodyPost_ret (v := .tuple #[.agg #[.int .i64 net, .int .i64 (n + 1)], .agg #[.int .i64 (net + psz (n + 1)), .int .i64 (n + 1)], .bool true]) (by simp [results, Try.results119, go_sem, hC]) rfl ⟨rfl, ?_⟩
    exact (cells3_below (by assumption) _ _ _ _).drew

end Go.Proofs.Ytgdnfglhlpnooaa
