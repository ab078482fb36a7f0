/- HasAddr and CoversPrefix of the model and of the program as contracts. -/
import Derived.Test.YtegffibamkaeiaaWb
import Derived.Test.YtegffibamkaeiaaReg
namespace Go.Proofs.Ytegffibamkaeiaa
open Go.RowKit

theorem ret_bool {a b : Bool} (h : a = b) : Ending.returned (.bool a) = .returned (.bool b) := by rw [h]
theorem unbox2 {w w2 : World} {o o' : Obj} (h : Below ((w.alloc o).alloc o').heap.size ((w.alloc o).alloc o') w2) : Below w.heap.size w w2 :=
  (((Below.refl _ _).alloc (Nat.le_refl _) _).alloc (by simp) _).trans (h.mono (by simp; omega))

set_option maxHeartbeats 1000000 in
theorem sphas_yes (net n a : Int) (w : World) (h : pokB net n = true) :
    Calls Try.prog 12 #[.agg #[.int .i64 net, .int .i64 n], .int .i64 a] w fun e w' => e = .returned (.bool (inB a net (net + psz n - 1))) ∧ Below w.heap.size w w' := by
  obtain ⟨h0, h1, h2, h3, _⟩ := pokB_true h
  have hp := psz_pos n h0 h1
  have hq := psz_le n h0 h1
  have e1 : IntKind.i64.wrap (net + psz n) = net + psz n := IntWalk.i64_in _ (by omega)
  have e2 : IntKind.i64.wrap (net + psz n - 1) = net + psz n - 1 := IntWalk.i64_in _ (by omega)
  go_enter Try.func12, Try.ntmps12
  go_wp2_with fail
  go_region_held3 (fun w' => w'.cell? ⟨w.heap.size, 0, none⟩ = some (.int .i64 net) ∧ w'.cell? ⟨w.heap.size, 1, none⟩ = some (.int .i64 n) ∧ w.heap.size < w'.heap.size ∧ Below w.heap.size w w') (first | assumption | exact box_keep0 _ _ _ _ | exact box_keep (by assumption) (by assumption))
    (first | (go_at_call 9; refine (spok_any _ _ _).mono ?_; rintro e w2 ⟨rfl, hb⟩) | (go_at_call 25; refine (spsize_any _ _ h0 h1).mono ?_; rintro e w2 ⟨rfl, rfl⟩) | (go_at_call 23; refine (in_any _ _ _ _).mono ?_; rintro e w2 ⟨rfl, rfl⟩))
  go_wp2_with fail
  go_ret
  exact ⟨rfl, box_below (by assumption)⟩

set_option maxHeartbeats 1000000 in
theorem sphas_no (net n a : Int) (w : World) (h : pokB net n = false) :
    Calls Try.prog 12 #[.agg #[.int .i64 net, .int .i64 n], .int .i64 a] w fun e w' => e = .returned (.bool false) ∧ Below w.heap.size w w' := by
  go_enter Try.func12, Try.ntmps12
  go_wp2_with fail
  refine wp_region_held_drew (S := (fun w' => w'.cell? ⟨w.heap.size, 0, none⟩ = some (.int .i64 net) ∧ w'.cell? ⟨w.heap.size, 1, none⟩ = some (.int .i64 n) ∧ w.heap.size < w'.heap.size ∧ Below w.heap.size w w')) (by kernel_rfl) ?_ (fun hHeld => ?_)
  · first | assumption | exact box_keep0 _ _ _ _ | exact box_keep (by assumption) (by assumption)
  refine step_read 0 5 rfl rfl (by kernel_rfl) (by kernel_rfl) (by kernel_rfl) (fun _ _ _ h => h) (by rfl) (v := ?_) (fun w hSw => ?_) (by assumption) ?_; rotate_left; (focus ((try dsimp only at hSw); go_simp; first | done | exact rfl)); simp only [List.set]
  (refine wpAnyH_ready (rs := [1]) (by kernel_rfl) (by simp) ?_; refine AllReadyH.cons rfl (fun K hK => ?_) AllReadyH.nil; go_simp; (go_at_call 9; refine (spok_any _ _ _).mono ?_; rintro e w2 ⟨rfl, hb⟩; try rw [h]); refine hK.out _ _ ?_ (fun hHeld => ?_); (focus (first | assumption | exact box_keep0 _ _ _ _ | exact box_keep (by assumption) (by assumption))); clear hK K)
  refine step_read 2 7 rfl rfl (by kernel_rfl) (by kernel_rfl) (by kernel_rfl) (fun _ _ _ h => h) (by rfl) (v := ?_) (fun w hSw => ?_) (by assumption) ?_; rotate_left; (focus ((try dsimp only at hSw); go_simp; first | done | exact rfl)); simp only [List.set]
  refine step_skip 3 8 rfl rfl (by kernel_rfl) (by kernel_rfl) (by kernel_rfl) (fun _ _ _ h => h) (by rfl) (by assumption) ?_; simp only [List.set]
  refine step_skip 4 9 rfl rfl (by kernel_rfl) (by kernel_rfl) (by kernel_rfl) (fun _ _ _ h => h) (by rfl) (by assumption) ?_; simp only [List.set]
  refine step_skip 5 10 rfl rfl (by kernel_rfl) (by kernel_rfl) (by kernel_rfl) (fun _ _ _ h => h) (by rfl) (by assumption) ?_; simp only [List.set]
  refine step_skip 6 11 rfl rfl (by kernel_rfl) (by kernel_rfl) (by kernel_rfl) (fun _ _ _ h => h) (by rfl) (by assumption) ?_; simp only [List.set]
  refine step_skip 7 12 rfl rfl (by kernel_rfl) (by kernel_rfl) (by kernel_rfl) (fun _ _ _ h => h) (by rfl) (by assumption) ?_; simp only [List.set]
  refine step_skip 8 13 rfl rfl (by kernel_rfl) (by kernel_rfl) (by kernel_rfl) (fun _ _ _ h => h) (by rfl) (by assumption) ?_; simp only [List.set]
  refine step_skip 9 14 rfl rfl (by kernel_rfl) (by kernel_rfl) (by kernel_rfl) (fun _ _ _ h => h) (by rfl) (by assumption) ?_; simp only [List.set]
  refine step_skip 10 15 rfl rfl (by kernel_rfl) (by kernel_rfl) (by kernel_rfl) (fun _ _ _ h => h) (by rfl) (by assumption) ?_; simp only [List.set]
  refine step_skip 11 16 rfl rfl (by kernel_rfl) (by kernel_rfl) (by kernel_rfl) (fun _ _ _ h => h) (by rfl) (by assumption) ?_; simp only [List.set]
  refine step_skip 12 17 rfl rfl (by kernel_rfl) (by kernel_rfl) (by kernel_rfl) (fun _ _ _ h => h) (by rfl) (by assumption) ?_; simp only [List.set]
  refine step_skip 13 18 rfl rfl (by kernel_rfl) (by kernel_rfl) (by kernel_rfl) (fun _ _ _ h => h) (by rfl) (by assumption) ?_; simp only [List.set]
  refine step_read 14 19 rfl rfl (by kernel_rfl) (by kernel_rfl) (by kernel_rfl) (fun _ _ _ h => h) (by rfl) (v := ?_) (fun w hSw => ?_) (by assumption) ?_; rotate_left; (focus ((try dsimp only at hSw); go_simp; first | done | exact rfl)); simp only [List.set]
  refine step_read 15 4 rfl rfl (by kernel_rfl) (by kernel_rfl) (by kernel_rfl) (fun _ _ _ h => h) (by rfl) (v := ?_) (fun w hSw => ?_) (by assumption) ?_; rotate_left; (focus ((try dsimp only at hSw); go_simp; first | done | exact rfl)); simp only [List.set]
  refine wpAnyH_done (by kernel_rfl) ?_ _
  go_wp2_with fail
  go_ret
  exact ⟨rfl, box_below (by assumption)⟩

theorem sphas_any (net n a : Int) (w : World) :
    Calls Try.prog 12 #[.agg #[.int .i64 net, .int .i64 n], .int .i64 a] w fun e w' => e = .returned (.bool (hasB net n a)) ∧ Below w.heap.size w w' := by
  unfold hasB
  by_cases h : pokB net n = true
  · rw [h, Bool.true_and]; exact sphas_yes net n a w h
  · rw [Bool.not_eq_true] at h; rw [h, Bool.false_and]; exact sphas_no net n a w h

set_option maxHeartbeats 1000000 in
theorem last_any (net n : Int) (w : World) (h0 : 0 ≤ n) (h1 : n ≤ 16) (h2 : 0 ≤ net) (h3 : net ≤ 65535) :
    Calls Try.prog 31 #[.agg #[.int .i64 net, .int .i64 n]] w fun e w' => e = .returned (.int .i64 (net + psz n - 1)) ∧ Below w.heap.size w w' := by
  have hp := psz_pos n h0 h1
  have hq := psz_le n h0 h1
  have e1 : IntKind.i64.wrap (net + psz n) = net + psz n := IntWalk.i64_in _ (by omega)
  have e2 : IntKind.i64.wrap (net + psz n - 1) = net + psz n - 1 := IntWalk.i64_in _ (by omega)
  go_enter Try.func31, Try.ntmps31
  go_wp2_with fail
  go_region_held3 (fun w' => w'.cell? ⟨w.heap.size, 0, none⟩ = some (.int .i64 net) ∧ w'.cell? ⟨w.heap.size, 1, none⟩ = some (.int .i64 n) ∧ w.heap.size < w'.heap.size ∧ Below w.heap.size w w') (first | assumption | exact box_keep0 _ _ _ _ | exact box_keep (by assumption) (by assumption))
    (first | (go_at_call 27; refine (size_any _ _ _ h0 h1).mono ?_; rintro e w2 ⟨rfl, hb⟩))
  go_wp2_with fail
  go_ret
  exact ⟨rfl, box_below (by assumption)⟩

set_option maxHeartbeats 1000000 in
theorem ihas_any (net n a : Int) (w : World) (h0 : 0 ≤ n) (h1 : n ≤ 16) (h2 : 0 ≤ net) (h3 : net ≤ 65535) :
    Calls Try.prog 28 #[.agg #[.int .i64 net, .int .i64 n], .int .i64 a] w fun e w' => e = .returned (.bool (inB a net (net + psz n - 1))) ∧ Below w.heap.size w w' := by
  have hK0 := Below.refl (w.alloc (.cells #[.int .i64 net, .int .i64 n] 25)).heap.size (w.alloc (.cells #[.int .i64 net, .int .i64 n] 25))
  by_cases hl : net ≤ a
  · by_cases hh : a ≤ net + psz n - 1
    · rw [inB_true hl hh]
      go_enter Try.func28, Try.ntmps28
      go_wp2_with (go_at_call 31; refine (last_any _ _ _ h0 h1 h2 h3).mono ?_; rintro e w2 ⟨rfl, hb⟩; have hK := chain (W0 := (w.alloc (.cells #[.int .i64 net, .int .i64 n] 25))) (by assumption) hb; clear hb; obtain ⟨hc2, hf2⟩ := bcell hK)
      go_ret
      exact ⟨rfl, unbox (by assumption)⟩
    · rw [inB_false (by omega)]
      go_enter Try.func28, Try.ntmps28
      go_wp2_with (go_at_call 31; refine (last_any _ _ _ h0 h1 h2 h3).mono ?_; rintro e w2 ⟨rfl, hb⟩; have hK := chain (W0 := (w.alloc (.cells #[.int .i64 net, .int .i64 n] 25))) (by assumption) hb; clear hb; obtain ⟨hc2, hf2⟩ := bcell hK)
      go_ret
      exact ⟨ret_bool (decide_eq_false (by omega)), unbox (by assumption)⟩
  · rw [inB_false (by omega)]
    go_enter Try.func28, Try.ntmps28
    go_wp2_with fail
    go_ret
    exact ⟨rfl, unbox (by assumption)⟩

set_option maxHeartbeats 1000000 in
theorem has_any (net n a : Int) (w : World) :
    Calls Try.prog 13 #[.agg #[.int .i64 net, .int .i64 n], .int .i64 a] w fun e w' => e = .returned (.bool (hasB net n a)) ∧ Below w.heap.size w w' := by
  have hK0 := Below.refl (w.alloc (.cells #[.int .i64 net, .int .i64 n] 25)).heap.size (w.alloc (.cells #[.int .i64 net, .int .i64 n] 25))
  unfold hasB
  by_cases h : pokB net n = true
  · rw [h, Bool.true_and]
    obtain ⟨h0, h1, h2, h3, _⟩ := pokB_true h
    go_enter Try.func13, Try.ntmps13
    go_wp2_with (first | (go_at_call 11; refine (pok_any _ _ _).mono ?_; rintro e w2 ⟨rfl, hb⟩; have hK := chain (W0 := (w.alloc (.cells #[.int .i64 net, .int .i64 n] 25))) (by assumption) hb; clear hb; obtain ⟨hc2, hf2⟩ := bcell hK) | (go_at_call 28; refine (ihas_any _ _ _ _ h0 h1 h2 h3).mono ?_; rintro e w2 ⟨rfl, hb⟩; have hK := chain (W0 := (w.alloc (.cells #[.int .i64 net, .int .i64 n] 25))) (by assumption) hb; clear hb; obtain ⟨hc2, hf2⟩ := bcell hK))
    go_ret
    exact ⟨rfl, unbox (by assumption)⟩
  · rw [Bool.not_eq_true] at h; rw [h, Bool.false_and]
    go_enter Try.func13, Try.ntmps13
    go_wp2_with (first | (go_at_call 11; refine (pok_any _ _ _).mono ?_; rintro e w2 ⟨rfl, hb⟩; have hK := chain (W0 := (w.alloc (.cells #[.int .i64 net, .int .i64 n] 25))) (by assumption) hb; clear hb; obtain ⟨hc2, hf2⟩ := bcell hK))
    go_ret
    exact ⟨rfl, unbox (by assumption)⟩

set_option maxHeartbeats 2000000 in
theorem spcov_any (net n net' n' : Int) (w : World) :
    Calls Try.prog 14 #[.agg #[.int .i64 net, .int .i64 n], .agg #[.int .i64 net', .int .i64 n']] w fun e w' => e = .returned (.bool (covB net n net' n')) ∧ Below w.heap.size w w' := by
  have hK0 := Below.refl ((w.alloc (.cells #[.int .i64 net, .int .i64 n] 25)).alloc (.cells #[.int .i64 net', .int .i64 n'] 25)).heap.size ((w.alloc (.cells #[.int .i64 net, .int .i64 n] 25)).alloc (.cells #[.int .i64 net', .int .i64 n'] 25))
  unfold covB
  by_cases h : pokB net n = true
  · have hhas : hasB net n net' = inB net' net (net + psz n - 1) := by unfold hasB; rw [h, Bool.true_and]
    by_cases h' : pokB net' n' = true
    · by_cases hi : inB net' net (net + psz n - 1) = true
      · rw [h, h', hi, Bool.true_and, Bool.and_true, Bool.true_and]
        rw [hi] at hhas
        clear hi
        go_enter Try.func14, Try.ntmps14
        go_wp2_with (first | (go_at_call 9; refine (spok_any _ _ _).mono ?_; rintro e w2 ⟨rfl, hb⟩; have hK := chain (W0 := ((w.alloc (.cells #[.int .i64 net, .int .i64 n] 25)).alloc (.cells #[.int .i64 net', .int .i64 n'] 25))) (by assumption) hb; clear hb; obtain ⟨hc2, hf2⟩ := bcell hK) | (go_at_call 12; refine (sphas_any _ _ _ _).mono ?_; rintro e w2 ⟨rfl, hb⟩; have hK := chain (W0 := ((w.alloc (.cells #[.int .i64 net, .int .i64 n] 25)).alloc (.cells #[.int .i64 net', .int .i64 n'] 25))) (by assumption) hb; clear hb; obtain ⟨hc2, hf2⟩ := bcell hK))
        go_ret
        exact ⟨rfl, unbox2 (by assumption)⟩
      · rw [Bool.not_eq_true] at hi
        rw [h, h', hi, Bool.and_false]
        rw [hi] at hhas
        clear hi
        go_enter Try.func14, Try.ntmps14
        go_wp2_with (first | (go_at_call 9; refine (spok_any _ _ _).mono ?_; rintro e w2 ⟨rfl, hb⟩; have hK := chain (W0 := ((w.alloc (.cells #[.int .i64 net, .int .i64 n] 25)).alloc (.cells #[.int .i64 net', .int .i64 n'] 25))) (by assumption) hb; clear hb; obtain ⟨hc2, hf2⟩ := bcell hK) | (go_at_call 12; refine (sphas_any _ _ _ _).mono ?_; rintro e w2 ⟨rfl, hb⟩; have hK := chain (W0 := ((w.alloc (.cells #[.int .i64 net, .int .i64 n] 25)).alloc (.cells #[.int .i64 net', .int .i64 n'] 25))) (by assumption) hb; clear hb; obtain ⟨hc2, hf2⟩ := bcell hK))
        go_ret
        exact ⟨rfl, unbox2 (by assumption)⟩
    · rw [Bool.not_eq_true] at h'
      clear hhas
      rw [h, h', Bool.and_false, Bool.false_and, Bool.false_and]
      go_enter Try.func14, Try.ntmps14
      go_wp2_with (first | (go_at_call 9; refine (spok_any _ _ _).mono ?_; rintro e w2 ⟨rfl, hb⟩; have hK := chain (W0 := ((w.alloc (.cells #[.int .i64 net, .int .i64 n] 25)).alloc (.cells #[.int .i64 net', .int .i64 n'] 25))) (by assumption) hb; clear hb; obtain ⟨hc2, hf2⟩ := bcell hK))
      go_ret
      exact ⟨rfl, unbox2 (by assumption)⟩
  · rw [Bool.not_eq_true] at h
    rw [h, Bool.false_and, Bool.false_and, Bool.false_and]
    go_enter Try.func14, Try.ntmps14
    go_wp2_with (first | (go_at_call 9; refine (spok_any _ _ _).mono ?_; rintro e w2 ⟨rfl, hb⟩; have hK := chain (W0 := ((w.alloc (.cells #[.int .i64 net, .int .i64 n] 25)).alloc (.cells #[.int .i64 net', .int .i64 n'] 25))) (by assumption) hb; clear hb; obtain ⟨hc2, hf2⟩ := bcell hK))
    go_ret
    exact ⟨rfl, unbox2 (by assumption)⟩

set_option maxHeartbeats 2000000 in
theorem cov_any (net n net' n' : Int) (w : World) :
    Calls Try.prog 15 #[.agg #[.int .i64 net, .int .i64 n], .agg #[.int .i64 net', .int .i64 n']] w fun e w' => e = .returned (.bool (covB net n net' n')) ∧ Below w.heap.size w w' := by
  have hK0 := Below.refl ((w.alloc (.cells #[.int .i64 net, .int .i64 n] 25)).alloc (.cells #[.int .i64 net', .int .i64 n'] 25)).heap.size ((w.alloc (.cells #[.int .i64 net, .int .i64 n] 25)).alloc (.cells #[.int .i64 net', .int .i64 n'] 25))
  unfold covB
  by_cases h : pokB net n = true
  · by_cases h' : pokB net' n' = true
    · obtain ⟨h0, h1, h2, h3, _⟩ := pokB_true h
      by_cases hl : n ≤ n'
      · rw [h, h', show decide (n ≤ n') = true from decide_eq_true hl, Bool.true_and, Bool.true_and]
        go_enter Try.func15, Try.ntmps15
        go_wp2_with (first | (go_at_call 11; refine (pok_any _ _ _).mono ?_; rintro e w2 ⟨rfl, hb⟩; have hK := chain (W0 := ((w.alloc (.cells #[.int .i64 net, .int .i64 n] 25)).alloc (.cells #[.int .i64 net', .int .i64 n'] 25))) (by assumption) hb; clear hb; obtain ⟨hc2, hf2⟩ := bcell hK) | (go_at_call 28; refine (ihas_any _ _ _ _ h0 h1 h2 h3).mono ?_; rintro e w2 ⟨rfl, hb⟩; have hK := chain (W0 := ((w.alloc (.cells #[.int .i64 net, .int .i64 n] 25)).alloc (.cells #[.int .i64 net', .int .i64 n'] 25))) (by assumption) hb; clear hb; obtain ⟨hc2, hf2⟩ := bcell hK))
        go_ret
        exact ⟨rfl, unbox2 (by assumption)⟩
      · have hd : decide (n ≤ n') = false := decide_eq_false hl
        rw [h, h', hd, Bool.and_false, Bool.false_and]
        go_enter Try.func15, Try.ntmps15
        go_wp2_with (first | (go_at_call 11; refine (pok_any _ _ _).mono ?_; rintro e w2 ⟨rfl, hb⟩; have hK := chain (W0 := ((w.alloc (.cells #[.int .i64 net, .int .i64 n] 25)).alloc (.cells #[.int .i64 net', .int .i64 n'] 25))) (by assumption) hb; clear hb; obtain ⟨hc2, hf2⟩ := bcell hK) | (go_at_call 28; refine (ihas_any _ _ _ _ h0 h1 h2 h3).mono ?_; rintro e w2 ⟨rfl, hb⟩; have hK := chain (W0 := ((w.alloc (.cells #[.int .i64 net, .int .i64 n] 25)).alloc (.cells #[.int .i64 net', .int .i64 n'] 25))) (by assumption) hb; clear hb; obtain ⟨hc2, hf2⟩ := bcell hK))
        go_ret
        exact ⟨rfl, unbox2 (by assumption)⟩
    · rw [Bool.not_eq_true] at h'
      rw [h, h', Bool.and_false, Bool.false_and, Bool.false_and]
      go_enter Try.func15, Try.ntmps15
      go_wp2_with (first | (go_at_call 11; refine (pok_any _ _ _).mono ?_; rintro e w2 ⟨rfl, hb⟩; have hK := chain (W0 := ((w.alloc (.cells #[.int .i64 net, .int .i64 n] 25)).alloc (.cells #[.int .i64 net', .int .i64 n'] 25))) (by assumption) hb; clear hb; obtain ⟨hc2, hf2⟩ := bcell hK))
      go_ret
      exact ⟨rfl, unbox2 (by assumption)⟩
  · rw [Bool.not_eq_true] at h
    rw [h, Bool.false_and, Bool.false_and, Bool.false_and]
    go_enter Try.func15, Try.ntmps15
    go_wp2_with (first | (go_at_call 11; refine (pok_any _ _ _).mono ?_; rintro e w2 ⟨rfl, hb⟩; have hK := chain (W0 := ((w.alloc (.cells #[.int .i64 net, .int .i64 n] 25)).alloc (.cells #[.int .i64 net', .int .i64 n'] 25))) (by assumption) hb; clear hb; obtain ⟨hc2, hf2⟩ := bcell hK))
    go_ret
    exact ⟨rfl, unbox2 (by assumption)⟩

end Go.Proofs.Ytegffibamkaeiaa
