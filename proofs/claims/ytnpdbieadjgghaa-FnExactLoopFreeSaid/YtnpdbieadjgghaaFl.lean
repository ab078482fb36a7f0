/- LoopFree of the program. -/
import Derived.Test.YtnpdbieadjgghaaRo
namespace Go.Proofs.Ytnpdbieadjgghaa
open Go.RowKit

set_option maxRecDepth 100000 in
set_option maxHeartbeats 4000000 in
theorem ilf_any (N : Int) (lo hi n : Nat) (v : Value) (L : List Ed) (s f d : Int) (w : World) (hL : L.length = n) (hr : Row 3 w lo hi v n (flat L)) (hh : hi ≤ w.heap.size) :
    Calls Try.prog 15 #[.agg #[.int .i64 N, v], .int .i64 s, .int .i64 f, .int .i64 d] w fun e w' => e = .returned (.bool (loopV N L s f d)) ∧ Below w.heap.size w w' := by
  have HR := Lib.hid hr
  obtain ⟨ad, cp, rfl⟩ := hr.slice
  clear hr
  have b0 : Below w.heap.size w ((w.alloc (.cells #[.int .i64 N, .slice ad n cp] 29)).alloc (.cells #[.int .i64 s, .int .i64 f, .int .i64 d] 3)) := by go_grown
  have HB0 := Lib.hid b0
  have HR0 := Lib.hid (HR.out.below b0 hh)
  have HX0 : Hid (Row 1 ((w.alloc (.cells #[.int .i64 N, .slice ad n cp] 29)).alloc (.cells #[.int .i64 s, .int .i64 f, .int .i64 d] 3)) (w.heap.size + 1) (w.heap.size + 1 + 1) (.slice (some ⟨w.heap.size + 1, 0, none⟩) 3 3) 3 [s, f, d]) := by
    refine ⟨rfl, .inr ⟨_, 3, rfl, Nat.le_refl _, by omega, by omega, fun q z hz => ?_, fun o => by simp [go_sem]⟩⟩
    rcases q with _ | _ | _ | q
    · simp at hz; subst hz; simp [go_sem]
    · simp at hz; subst hz; simp [go_sem]
    · simp at hz; subst hz; simp [go_sem]
    · simp at hz
  clear b0
  go_enter Try.func15, Try.ntmps15
  go_wp2_with fail
  go_at_call 56
  refine (survey_any w.heap.size N lo hi n _ L _ _ 3 _ [s, f, d] _ hL HR0.out (by simp; omega) HX0.out (by simp) (by omega) hh).mono ?_
  rintro e w1 ⟨b1, hcase⟩
  have HB1 : Hid (Below w.heap.size w w1) := HB0.out.trans (b1.mono (by simp; omega))
  clear HB0 HR0 HX0 b1
  rcases hcase with ⟨hg, rfl⟩ | ⟨hg, X, rfl, hX, hS, hE⟩
  · have HV : Hid (loopV N L s f d = false) := by show loopV _ _ _ _ _ = false; unfold loopV; rw [hg, Bool.false_and]
    clear hg
    go_wp2
    go_ret
    exact ⟨by rw [HV.out]; rfl, HB1.out⟩
  · have hN := gok_parts (g10_gok hg)
    have hnd := g10_nodes hg
    obtain ⟨M, rfl⟩ : ∃ M : Nat, N = (M : Int) := ⟨N.toNat, by omega⟩
    have g1 := hnd s (by simp)
    have g2 := hnd f (by simp)
    have g3 := hnd d (by simp)
    obtain ⟨s', rfl⟩ : ∃ q : Nat, s = (q : Int) := ⟨s.toNat, by omega⟩
    obtain ⟨f', rfl⟩ : ∃ q : Nat, f = (q : Int) := ⟨f.toNat, by omega⟩
    obtain ⟨d', rfl⟩ : ∃ q : Nat, d = (q : Int) := ⟨d.toNat, by omega⟩
    rw [Int.toNat_natCast] at hS
    have HV : Hid (loopV (M : Int) L (s' : Int) (f' : Int) (d' : Int) = lfB (M : Int) L (s' : Int) (f' : Int) (d' : Int)) := by show loopV _ _ _ _ _ = _; unfold loopV; rw [hg, Bool.true_and]
    have HS := Lib.hid hS
    simp only [World.size_alloc] at hX
    have hsM : s' < M := by omega
    have hfM : f' < M := by omega
    have hdM : d' < M := by omega
    clear hg hS hE hnd hN g1 g2 g3
    go_wp2_with fail
    go_at_call 57
    refine (loopFree_any X M s' f' d' L _ HS.out hsM hfM hdM).mono ?_
    rintro e w2 ⟨rfl, b2, -⟩
    have HB2 := Lib.hid (HB1.out.trans (b2.but.below (by omega) HB1.out.size))
    clear b2
    go_wp2
    go_ret
    exact ⟨by rw [HV.out]; rfl, HB2.out⟩

end Go.Proofs.Ytnpdbieadjgghaa
