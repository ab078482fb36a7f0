/- Cover of the program as contracts. -/
import Derived.Test.YtegffibamkaeiabSe
import Derived.Test.YtegffibamkaeiabSc
import Derived.Laws.EntriesVeiled
namespace Go.Proofs.Ytegffibamkaeiab
open Go.RowKit

def OneRow (w : World) (L : List (Int × Int)) (e : Ending) (w' : World) : Prop := ∃ v, e = .returned v ∧ Row w' w.heap.size w'.heap.size v L ∧ Below w.heap.size w w'

theorem start_inv (w : World) (fr to : Int) :
    CInv w.heap.size fr to (((w.alloc (.cells #[.int .i64 fr, .int .i64 to] 49)).alloc (.cells #[.slice none 0 0] 22)).alloc (.cells #[clo w.heap.size] 72)) [] (.slice none 0 0) := by
  refine ⟨by simp [go_sem], by simp [go_sem], by simp [go_sem], by simp [go_sem], by simp [go_sem], by simp, ?_⟩
  exact World.ownsRow_nil _ _ _ _
theorem Row.lower {w : World} {lo lo' hi : Nat} {v : Value} {L : List (Int × Int)} (h : Row w lo hi v L) (hl : lo' ≤ lo) : Row w lo' hi v L := by
  rcases h with h | ⟨g, cap, rfl, h1, h2, r⟩
  · exact .inl h
  · exact .inr ⟨g, cap, rfl, Nat.le_trans hl h1, h2, r⟩
theorem frame_below {B : Nat} {w w3 w4 : World} {v' : Value} (h : Below w.heap.size w w3) (hB : w.heap.size ≤ B + 1) (hf : CFrame B w3 (.slice none 0 0) w4 v') : Below w.heap.size w w4 := by
  obtain ⟨h1, h2, h3, h4, h5, _⟩ := hf
  exact ⟨h1.trans h.os, h2.trans h.tape, h3.trans h.output, Nat.le_trans h.size h4, fun k hk => (h5 k (Nat.lt_of_lt_of_le hk h.size) (by omega) (fun e => by cases e)).trans (h.block k hk)⟩

set_option maxHeartbeats 2000000 in
theorem prefixes_any (fr to : Int) (w : World) :
    Calls Try.prog 28 #[.agg #[.int .i64 fr, .int .i64 to]] w (OneRow w (tree fr to 17 0 0)) := by
  have hmf : ∀ (fn : Fn) (first cap : Array Value) (w : World), (Instr.makeFunc fn first cap).run Try.prog w = .ok (.func fn first cap) w := fun _ _ _ _ => rfl
  have hz : psz 0 = 65536 := by decide
  have HC := Lib.hid (collect w.heap.size fr to 17 0 0 (by omega) (by omega) (by omega) (by omega) (by omega))
  clear hz
  go_enter Try.func28, Try.ntmps28
  go_wp2_with fail
  refine (HC.out [] (.slice none 0 0) _ (by have : psz 0 = 65536 := by decide
                                            rw [this]; simp) (start_inv w fr to)).mono ?_
  rintro e w4 ⟨rfl, v', I4, F4⟩
  rw [List.nil_append] at I4
  obtain ⟨sa, sc, rfl⟩ := own_slice I4.2.2.2.2.2.2
  have q := I4.2.2.1
  have hl : (tree fr to 17 0 0).length ≤ 1000000 := by
    have h1 := tree_len fr to 17 0 0 (by omega) (by omega) (by omega)
    have : psz 0 = 65536 := by decide
    omega
  have HR := Lib.hid (Row.lower (row_of_own I4.2.2.2.2.2.2 hl) (show w.heap.size ≤ w.heap.size + 3 by omega))
  have HB := Lib.hid (frame_below (w := w) (B := w.heap.size) (by go_grown) (by omega) F4)
  clear I4 F4 hl
  go_wp2
  go_ret
  exact ⟨_, rfl, HR.out, HB.out⟩

theorem badB_true {fr to : Int} (h : badB fr to = false) : 0 ≤ fr ∧ fr ≤ to ∧ to ≤ 65535 := by
  unfold badB at h
  simp only [Bool.or_eq_false_iff, Bool.not_eq_false', inB_iff, decide_eq_false_iff_not] at h
  omega

set_option maxHeartbeats 1000000 in
theorem cover_no (fr to : Int) (w : World) (h : badB fr to = true) :
    Calls Try.prog 8 #[.int .i64 fr, .int .i64 to] w fun e w' => e = .returned (.tuple #[.slice none 0 0, .bool false]) ∧ Below w.heap.size w w' := by
  unfold badB at h
  by_cases ha : inB fr 0 65535 = true
  · by_cases hb : inB to 0 65535 = true
    · have hd : to < fr := by simpa [ha, hb] using h
      clear h
      go_enter Try.func8, Try.ntmps8
      go_wp2_with (go_at_call 27; refine (iaddr_any _ _).mono ?_; rintro e w' ⟨rfl, rfl⟩)
      go_ret2
      exact ⟨rfl, by go_grown⟩
    · rw [Bool.not_eq_true] at hb
      clear h
      go_enter Try.func8, Try.ntmps8
      go_wp2_with (go_at_call 27; refine (iaddr_any _ _).mono ?_; rintro e w' ⟨rfl, rfl⟩)
      go_ret2
      exact ⟨rfl, by go_grown⟩
  · rw [Bool.not_eq_true] at ha
    clear h
    go_enter Try.func8, Try.ntmps8
    go_wp2_with (go_at_call 27; refine (iaddr_any _ _).mono ?_; rintro e w' ⟨rfl, rfl⟩)
    go_ret2
    exact ⟨rfl, by go_grown⟩

set_option maxHeartbeats 1000000 in
theorem cover_yes (fr to : Int) (w : World) (h0 : 0 ≤ fr) (h1 : fr ≤ to) (h2 : to ≤ 65535) :
    Calls Try.prog 8 #[.int .i64 fr, .int .i64 to] w (SomeRow w (tree fr to 17 0 0)) := by
  have ia := inB_true h0 (show fr ≤ 65535 by omega)
  have ib := inB_true (show 0 ≤ to by omega) h2
  have hlt : ¬ (to < fr) := by omega
  go_enter Try.func8, Try.ntmps8
  go_wp2_with (first | (go_at_call 27; refine (iaddr_any _ _).mono ?_; rintro e w' ⟨rfl, rfl⟩) | (go_at_call 28; refine (prefixes_any _ _ _).mono ?_; rintro e w2 ⟨v, rfl, hr, hb⟩; have HR := Lib.hid hr; have HB := Lib.hid hb; clear hr hb))
  go_ret2
  exact ⟨_, rfl, HR.out, HB.out⟩

end Go.Proofs.Ytegffibamkaeiab
