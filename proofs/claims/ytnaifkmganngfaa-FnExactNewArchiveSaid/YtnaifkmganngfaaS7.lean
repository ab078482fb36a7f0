/- New archives. -/
import Derived.Test.YtnaifkmganngfaaS6
namespace Go.Proofs.Ytnaifkmganngfaa
open Go.RowKit


theorem row_nil (w : World) (lo hi : Nat) : Row 5 w lo hi (.slice none 0 0) 0 (flat []) := ⟨rfl, .inl ⟨rfl, none, 0, rfl⟩⟩

set_option maxRecDepth 100000 in
set_option maxHeartbeats 4000000 in
theorem snew_any (w : World) : Calls Try.prog 26 #[] w fun e w' => ∃ rv, e = .returned (.agg #[rv, .int .i64 0]) ∧ KRow w' w.heap.size w'.heap.size rv 3 [[], [], []] ∧ Below w.heap.size w w' := by
  have hmk : ∀ w : World, (Instr.makeSlice 26 (.int .i64 3) (.int .i64 3)).run Try.prog w = .ok (.slice (some ⟨w.heap.size, 0, none⟩) 3 3) (w.alloc (.cells (Array.replicate 3 (.slice none 0 0)) 54)) := fun _ => by kernel_rfl
  go_enter Try.func26, Try.ntmps26
  go_wp2_with fail
  obtain ⟨q, hq⟩ : ∃ q, q = (w.alloc (.cells #[.slice (some ⟨w.heap.size + 1, 0, none⟩) 3 3, .int .i64 0] 28)).alloc (.cells (Array.replicate 3 (.slice none 0 0)) 54) := ⟨_, rfl⟩
  have hB : Below w.heap.size w q := by rw [hq]; go_grown
  have hsz : q.heap.size = w.heap.size + 2 := by rw [hq]; simp
  have c0 : q.cell? ⟨w.heap.size, 0, none⟩ = some (.slice (some ⟨w.heap.size + 1, 0, none⟩) 3 3) := by rw [hq, old_box (by simp), new_at rfl]; rfl
  have c1 : q.cell? ⟨w.heap.size, 1, none⟩ = some (.int .i64 0) := by rw [hq, old_box (by simp), new_at rfl]; rfl
  have hr : KRow q w.heap.size q.heap.size (.slice (some ⟨w.heap.size + 1, 0, none⟩) 3 3) 3 [[], [], []] := by
    refine ⟨⟨_, 3, fun _ => .slice none 0 0, fun _ => (w.heap.size + 2, w.heap.size + 2), rfl, by simp, fun _ => ⟨w.heap.size + 1, rfl, by omega, by omega, fun o => by rw [hq, new_frz (by simp)], fun i l hi => ?_, fun i hi => .inl (by omega)⟩, fun i l hi => ?_, fun i j _ _ => Nat.le_refl _⟩, rfl⟩
    · have hi3 : i < 3 := lt_of_at hi
      rw [hq, new_at (by simp)]
      rcases i with _ | _ | _ | i
      · rfl
      · rfl
      · rfl
      · omega
    · have hi3 : i < 3 := lt_of_at hi
      have : l = [] := by rcases i with _ | _ | _ | i <;> first | omega | simp_all
      subst this
      exact ⟨row_nil _ _ _, by omega, by omega⟩
  rw [← hq]
  clear hq
  refine bodyPost_ret (v := .agg #[.slice (some ⟨w.heap.size + 1, 0, none⟩) 3 3, .int .i64 0]) (by simp [results, Try.results26, go_sem, c0, c1]) rfl ⟨_, rfl, hr, hB⟩

set_option maxRecDepth 100000 in
set_option maxHeartbeats 4000000 in
theorem inew_any (w : World) : Calls Try.prog 27 #[] w fun e w' => ∃ rv, e = .returned (.agg #[rv, .int .i64 0]) ∧ KRow w' w.heap.size w'.heap.size rv 3 [[], [], []] ∧ Below w.heap.size w w' := by
  have hmk : ∀ w : World, (Instr.makeSlice 26 (.int .i64 3) (.int .i64 3)).run Try.prog w = .ok (.slice (some ⟨w.heap.size, 0, none⟩) 3 3) (w.alloc (.cells (Array.replicate 3 (.slice none 0 0)) 54)) := fun _ => by kernel_rfl
  go_enter Try.func27, Try.ntmps27
  go_wp2_with fail
  obtain ⟨q, hq⟩ : ∃ q, q = (w.alloc (.cells #[.slice (some ⟨w.heap.size + 1, 0, none⟩) 3 3, .int .i64 0] 28)).alloc (.cells (Array.replicate 3 (.slice none 0 0)) 54) := ⟨_, rfl⟩
  have hB : Below w.heap.size w q := by rw [hq]; go_grown
  have hsz : q.heap.size = w.heap.size + 2 := by rw [hq]; simp
  have c0 : q.cell? ⟨w.heap.size, 0, none⟩ = some (.slice (some ⟨w.heap.size + 1, 0, none⟩) 3 3) := by rw [hq, old_box (by simp), new_at rfl]; rfl
  have c1 : q.cell? ⟨w.heap.size, 1, none⟩ = some (.int .i64 0) := by rw [hq, old_box (by simp), new_at rfl]; rfl
  have hr : KRow q w.heap.size q.heap.size (.slice (some ⟨w.heap.size + 1, 0, none⟩) 3 3) 3 [[], [], []] := by
    refine ⟨⟨_, 3, fun _ => .slice none 0 0, fun _ => (w.heap.size + 2, w.heap.size + 2), rfl, by simp, fun _ => ⟨w.heap.size + 1, rfl, by omega, by omega, fun o => by rw [hq, new_frz (by simp)], fun i l hi => ?_, fun i hi => .inl (by omega)⟩, fun i l hi => ?_, fun i j _ _ => Nat.le_refl _⟩, rfl⟩
    · have hi3 : i < 3 := lt_of_at hi
      rw [hq, new_at (by simp)]
      rcases i with _ | _ | _ | i
      · rfl
      · rfl
      · rfl
      · omega
    · have hi3 : i < 3 := lt_of_at hi
      have : l = [] := by rcases i with _ | _ | _ | i <;> first | omega | simp_all
      subst this
      exact ⟨row_nil _ _ _, by omega, by omega⟩
  rw [← hq]
  clear hq
  refine bodyPost_ret (v := .agg #[.slice (some ⟨w.heap.size + 1, 0, none⟩) 3 3, .int .i64 0]) (by simp [results, Try.results27, go_sem, c0, c1]) rfl ⟨_, rfl, hr, hB⟩

end Go.Proofs.Ytnaifkmganngfaa
