/- slices.Grow of no slice. -/
import Derived.Test.YtnpdbieadjgghaaGreatW22
import Derived.Lib.AppendZerosOnto
import Derived.Lib.SliceRun
import Derived.Lib.AppendZeros
import Derived.Test.YtnpdbieadjgghaaGreatGi
import Derived.Test.YtnpdbieadjgghaaGreatQg
namespace Go.Proofs.YtnpdbieadjgghaaGreat
open Go.RowKit


set_option maxHeartbeats 2000000 in
set_option maxRecDepth 100000 in
/-- slices.Grow of no slice: an empty slice with a block of its own. -/
theorem grow_any (n : Nat) (w : World) (h0 : 0 < n) (hn : n ≤ 1000000) :
    Calls Tryz.prog 75 #[.slice none 0 0, .int .i64 (n : Int)] w fun e w' => ∃ G : Nat, e = .returned (.slice (some ⟨w.heap.size, 0, none⟩) 0 G) ∧ w'.ownsRow w.heap.size 3 1 (.slice (some ⟨w.heap.size, 0, none⟩) 0 G) 0 [] ∧ Below w.heap.size w w' ∧ w'.heap.size = w.heap.size + 1 := by
  obtain ⟨i3, hi, hz0, hz1, hz2⟩ := info_parts Tryz.info3
  have hfit : Builtin.nextslicecap (0 + n) 0 * i3.bytes ≤ 281474976710656 := by
    rw [Nat.zero_add]; exact growslice_fits h0 (by rw [hz2]; omega)
  have hr : ∀ ty, (Builtin.append_ #[38, 3] ty #[.slice none 0 0, .int .i64 (n : Int)]).run Tryz.prog w = .ok (.slice (some ⟨w.heap.size, 0, none⟩) (0 + n) (grownCap w (0 + n) 0 3)) (w.drew.alloc (.cells (([] : List Value).toArray ++ Builtin.zeroCells (Value.int .i64 0).cells n ++ Builtin.zeroCells (Value.int .i64 0).cells (grownCap w (0 + n) 0 3 - (0 + n))) 3)) := fun ty =>
    Lib.run_append_grow_zeros w 38 3 ty 3 i3 (.int .i64 0) .i64 .i64 Tryz.underlying38 Tryz.underlying3 hi hz0 none 0 0 [] (run_firstCells_none w.drew i3.size 0 0 0) n h0 (by rw [hz1]; omega) (by omega) (by omega) (by rw [hz2]; omega) hfit
  rw [Nat.zero_add] at hr
  have hGn : n ≤ grownCap w n 0 3 := grownCap_ge w _ _ _
  have hGm := grownCap_le_maxLen w n 0 3 (by unfold maxLen; omega)
  obtain ⟨G, hG⟩ : ∃ G, G = grownCap w n 0 3 := ⟨_, rfl⟩
  rw [← hG] at hr hGn hGm
  obtain ⟨cs, hcs⟩ : ∃ cs, cs = ([] : List Value).toArray ++ Builtin.zeroCells (Value.int .i64 0).cells n ++ Builtin.zeroCells (Value.int .i64 0).cells (G - n) := ⟨_, rfl⟩
  have hcl : cs.size = G := by rw [hcs]; simp [Builtin.zeroCells, Value.cells]; omega
  rw [← hcs] at hr
  have Hcl := Lib.hid hcl
  have HG := Lib.hid (And.intro hGm hG)
  have hG63 : G ≤ 9223372036854775807 := by unfold maxLen at hGm; omega
  clear hcs hG hGm hcl hfit hi hz0 hz1 hz2
  have q0 : (0 : Int) < (n : Int) := by omega
  have q1 : decide ((n : Int) < 0) = false := decide_eq_false (by omega)
  go_enter Tryz.func75, Tryz.ntmps75
  go_wp2_with (at_builtin; refine Lib.wpList_append_run _ rfl _ _ _ _ rfl _ _ rfl rfl _ _ (hr _) ?_)
  go_ret
  refine ⟨G, rfl, ⟨rfl, .inr ⟨_, G, cs, rfl, Nat.le_refl _, ?_, Nat.zero_le _, HG.out.1, by rw [Hcl.out, Nat.mul_one], by simp⟩⟩, ?_, by simp⟩
  · have := heap_alloc_new w.drew (.cells cs 3)
    exact this
  · exact ((Below.refl _ _).drew).alloc (Nat.le_refl _) _

end Go.Proofs.YtnpdbieadjgghaaGreat
