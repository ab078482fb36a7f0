/- NewSketch of the program. -/
import Derived.Test.YtophppnllkadoaaK5
namespace Go.Proofs.Ytophppnllkadoaa
open Go.RowKit


/-- The rows of a new sketch. -/
def D0 : List (List Int) := List.replicate 4 Z16
theorem D0_len : D0.length = 4 := by simp [D0]
theorem D0_tot : rtot D0 ≤ 1100000 := by unfold D0 Z16; decide
theorem snew4 (w : World) : Calls Try.prog 35 #[] w fun e w' => ∃ rv, e = .returned (.agg #[rv, .int .i64 0]) ∧ KRow w' w.heap.size w'.heap.size rv 4 D0 ∧ Below w.heap.size w w' := by
  refine (snew_any w).mono ?_
  rintro e w' ⟨rv, rfl, hr, hb⟩
  exact ⟨rv, rfl, by simpa [D0] using hr, hb⟩
theorem izero4 (w : World) : Calls Try.prog 53 #[.slice none 0 0] w fun e w' => ∃ rv, e = .returned (.agg #[rv, .int .i64 0]) ∧ KRow w' w.heap.size w'.heap.size rv 4 D0 ∧ Below w.heap.size w w' := by
  refine (izero_any w).mono ?_
  rintro e w' ⟨rv, rfl, hr, hb⟩
  exact ⟨rv, rfl, by simpa [D0] using hr, hb⟩
set_option maxRecDepth 100000 in
set_option maxHeartbeats 4000000 in
theorem inew4 (w : World) : Calls Try.prog 17 #[] w fun e w' => ∃ rv, e = .returned (.agg #[rv, .int .i64 0]) ∧ KRow w' w.heap.size w'.heap.size rv 4 D0 ∧ Below w.heap.size w w' := by
  go_enter Try.func17, Try.ntmps17
  go_wp2_with fail
  go_at_call 53
  refine (izero4 _).mono ?_
  rintro e v1 ⟨rv, rfl, hr, hb⟩
  have hw1 : w.heap.size < (w.alloc (.cells #[.slice none 0 0, .int .i64 0] 28)).heap.size := by simp
  have sz := hb.size
  have b0 : v1.cell? ⟨w.heap.size, 0, none⟩ = some (.slice none 0 0) := by rw [hb.cell (p := ⟨w.heap.size, 0, none⟩) hw1, new_at rfl]; rfl
  have b1 : v1.cell? ⟨w.heap.size, 1, none⟩ = some (.int .i64 0) := by rw [hb.cell (p := ⟨w.heap.size, 1, none⟩) hw1, new_at rfl]; rfl
  have bf0 : v1.frozen? ⟨w.heap.size, 0, none⟩ = false := by rw [hb.frozen (p := ⟨w.heap.size, 0, none⟩) hw1, new_frz rfl]
  have bf1 : v1.frozen? ⟨w.heap.size, 1, none⟩ = false := by rw [hb.frozen (p := ⟨w.heap.size, 1, none⟩) hw1, new_frz rfl]
  obtain ⟨ra, rc, rfl⟩ := hr.slice
  have r0 : ((v1.setCell ⟨w.heap.size, 0, none⟩ (.slice ra 4 rc)).setCell ⟨w.heap.size, 1, none⟩ (.int .i64 0)).cell? ⟨w.heap.size, 0, none⟩ = some (.slice ra 4 rc) := by rw [World.cell?_setCell_other _ _ _ _ (by simp)]; exact World.cell?_setCell_same' _ _ _ (by rw [b0]; rfl)
  have r1 : ((v1.setCell ⟨w.heap.size, 0, none⟩ (.slice ra 4 rc)).setCell ⟨w.heap.size, 1, none⟩ (.int .i64 0)).cell? ⟨w.heap.size, 1, none⟩ = some (.int .i64 0) := World.cell?_setCell_same' _ _ _ (by rw [World.cell?_setCell_other _ _ _ _ (by simp), b1]; rfl)
  have Hrow2 := Lib.hid (((hr.setCell (p := ⟨w.heap.size, 0, none⟩) (.inl hw1) (.slice ra 4 rc)).setCell (p := ⟨w.heap.size, 1, none⟩) (.inl hw1) (.int .i64 0)).wide (lo' := w.heap.size) (hi' := ((v1.setCell ⟨w.heap.size, 0, none⟩ (.slice ra 4 rc)).setCell ⟨w.heap.size, 1, none⟩ (.int .i64 0)).heap.size) (by simp) (by simp [World.setCell]))
  have HB2 := Lib.hid (((((Below.refl w.heap.size w).alloc (Nat.le_refl _) (.cells #[.slice none 0 0, .int .i64 0] 28)).trans (hb.mono (by simp))).setCell (p := ⟨w.heap.size, 0, none⟩) (Nat.le_refl _) (.slice ra 4 rc)).setCell (p := ⟨w.heap.size, 1, none⟩) (Nat.le_refl _) (.int .i64 0))
  clear hb hr
  go_wp2_with fail
  refine bodyPost_ret (v := .agg #[.slice ra 4 rc, .int .i64 0]) (by simp [results, Try.results17, go_sem, r0, r1]) rfl ⟨_, rfl, ?_, ?_⟩
  · exact Hrow2.out
  · exact HB2.out

end Go.Proofs.Ytophppnllkadoaa
