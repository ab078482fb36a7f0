/- The prefixes that make up a range. -/
import Derived.Test.YtpfeekdmeloakaaOe
import Derived.Laws.EntriesVeiled
namespace Go.Proofs.Ytpfeekdmeloakaa.Old
open Go.RowKit

def OneRow (w : World) (L : List (Int × Int)) (e : Ending) (w' : World) : Prop := ∃ v, e = .returned v ∧ Row w' w.heap.size w'.heap.size v L ∧ Below w.heap.size w w'

theorem start_inv (w : World) (fr to : Int) :
    CInv w.heap.size fr to (((w.alloc (.cells #[.int .i64 fr, .int .i64 to] 102)).alloc (.cells #[.slice none 0 0] 54)).alloc (.cells #[clo w.heap.size] 136)) [] (.slice none 0 0) := by
  refine ⟨by simp [go_sem], by simp [go_sem], by simp [go_sem], by simp [go_sem], by simp [go_sem], by simp, ?_⟩
  exact World.ownsRow_nil _ _ _ _
theorem Row.lower {w : World} {lo lo' hi : Nat} {v : Value} {L : List (Int × Int)} (h : Row w lo hi v L) (hl : lo' ≤ lo) : Row w lo' hi v L := by
  rcases h with h | ⟨g, cap, rfl, h1, h2, r⟩
  · exact .inl h
  · exact .inr ⟨g, cap, rfl, Nat.le_trans hl h1, h2, r⟩
theorem frame_below {B : Nat} {w w3 w4 : World} {v' : Value} (h : Below w.heap.size w w3) (hB : w.heap.size ≤ B + 1) (hf : CFrame B w3 (.slice none 0 0) w4 v') : Below w.heap.size w w4 := by
  obtain ⟨h1, h2, h3, h4, h5, _⟩ := hf
  exact ⟨h1.trans h.os, h2.trans h.tape, h3.trans h.output, Nat.le_trans h.size h4, fun k hk => (h5 k (Nat.lt_of_lt_of_le hk h.size) (by omega) (fun e => by cases e)).trans (h.block k hk)⟩

set_option maxHeartbeats 2000000 in
theorem prefixes_any (fr to : Int) (w : World) :
    Calls Try.prog 81 #[.agg #[.int .i64 fr, .int .i64 to]] w (OneRow w (tree fr to 17 0 0)) := by
  have hmf : ∀ (fn : Fn) (first cap : Array Value) (w : World), (Instr.makeFunc fn first cap).run Try.prog w = .ok (.func fn first cap) w := fun _ _ _ _ => rfl
  have hz : psz 0 = 65536 := by decide
  have HC := Lib.hid (collect w.heap.size fr to 17 0 0 (by omega) (by omega) (by omega) (by omega) (by omega))
  clear hz
  go_enter Try.func81, Try.ntmps81
  go_wp2_with fail
  refine (HC.out [] (.slice none 0 0) _ (by have : psz 0 = 65536 := by decide
                                            rw [this]; simp) (start_inv w fr to)).mono ?_
  rintro e w4 ⟨rfl, v', I4, F4⟩
  rw [List.nil_append] at I4
  obtain ⟨sa, sc, rfl⟩ := own_slice I4.2.2.2.2.2.2
  have q := I4.2.2.1
  have hl : (tree fr to 17 0 0).length ≤ 1000000 := by
    have h1 := tree_len fr to 17 0 0 (by omega) (by omega) (by omega)
    have : psz 0 = 65536 := by decide
    omega
  have HR := Lib.hid (Row.lower (row_of_own I4.2.2.2.2.2.2 hl) (show w.heap.size ≤ w.heap.size + 3 by omega))
  have HB := Lib.hid (frame_below (w := w) (B := w.heap.size) (by go_grown) (by omega) F4)
  clear I4 F4 hl
  go_wp2
  go_ret
  exact ⟨_, rfl, HR.out, HB.out⟩


end Go.Proofs.Ytpfeekdmeloakaa.Old
