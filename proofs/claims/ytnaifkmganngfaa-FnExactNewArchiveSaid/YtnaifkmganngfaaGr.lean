/- The helpers of the laws over slices of rows. -/
import Derived.Test.YtnaifkmganngfaaRows
import Derived.Test.YtnaifkmganngfaaGa
import Derived.WalkSpells
import Derived.WalkLawsBesides
import Derived.BigQuiet
import Derived.Deep.QuietTactic
import Derived.Deep.RegionHeld3
import Derived.WalkSmall
import Derived.Handy
namespace Go.Proofs.Ytnaifkmganngfaa
open Go.RowKit


set_option maxHeartbeats 1000000 in
theorem toRow_any (x0 x1 x2 x3 x4 : Int) (w : World) :
    Calls Try.prog 72 #[.agg #[.int .i64 x0, .int .i64 x1, .int .i64 x2, .int .i64 x3, .int .i64 x4]] w fun e w' => e = .returned (.agg #[.int .i64 x0, .int .i64 x1, .int .i64 x2, .int .i64 x3, .int .i64 x4]) ∧ Below w.heap.size w w' := by
  go_enter Try.func72, Try.ntmps72
  go_wp2
  go_returns
  exact ⟨rfl, by go_grown⟩

set_option maxHeartbeats 1000000 in
theorem eqRow_same (x0 x1 x2 x3 x4 : Int) (w : World) :
    Calls Try.prog 73 #[.agg #[.int .i64 x0, .int .i64 x1, .int .i64 x2, .int .i64 x3, .int .i64 x4], .agg #[.int .i64 x0, .int .i64 x1, .int .i64 x2, .int .i64 x3, .int .i64 x4]] w fun e w' => e = .returned (.bool true) ∧ Below w.heap.size w w' := by
  go_enter Try.func73, Try.ntmps73
  go_wp2
  go_ret
  exact ⟨rfl, by go_grown⟩

set_option maxHeartbeats 1000000 in
theorem eqRowS_nil (a a' : Option Addr) (c c' : Nat) (w : World) :
    Calls Try.prog 65 #[.slice a 0 c, .slice a' 0 c'] w fun e w' => e = .returned (.bool true) ∧ w = w' := by
  go_enter Try.func65, Try.ntmps65
  go_wp2
  go_loop [5] (fun i => i = .int .i64 0) (fun i => (intOf i).toNat)
  case atStart => exact rfl
  case round =>
    subst hrel
    go_wp2
    go_ret
    exact ⟨rfl, rfl⟩

theorem eqRow_keep {w w1 w2 : World} {g g' a : Nat} {z0 z1 z2 z3 z4 : Value} (hg : g < w.heap.size) (hg' : g' < w.heap.size)
    (h : w1.cell? ⟨g, a, none⟩ = some z0 ∧ w1.cell? ⟨g, a + 1, none⟩ = some z1 ∧ w1.cell? ⟨g, a + 2, none⟩ = some z2 ∧ w1.cell? ⟨g, a + 3, none⟩ = some z3 ∧ w1.cell? ⟨g, a + 4, none⟩ = some z4 ∧ w1.cell? ⟨g', a, none⟩ = some z0 ∧ w1.cell? ⟨g', a + 1, none⟩ = some z1 ∧ w1.cell? ⟨g', a + 2, none⟩ = some z2 ∧ w1.cell? ⟨g', a + 3, none⟩ = some z3 ∧ w1.cell? ⟨g', a + 4, none⟩ = some z4 ∧ Below w.heap.size w w1) (hb : Below w1.heap.size w1 w2) :
    w2.cell? ⟨g, a, none⟩ = some z0 ∧ w2.cell? ⟨g, a + 1, none⟩ = some z1 ∧ w2.cell? ⟨g, a + 2, none⟩ = some z2 ∧ w2.cell? ⟨g, a + 3, none⟩ = some z3 ∧ w2.cell? ⟨g, a + 4, none⟩ = some z4 ∧ w2.cell? ⟨g', a, none⟩ = some z0 ∧ w2.cell? ⟨g', a + 1, none⟩ = some z1 ∧ w2.cell? ⟨g', a + 2, none⟩ = some z2 ∧ w2.cell? ⟨g', a + 3, none⟩ = some z3 ∧ w2.cell? ⟨g', a + 4, none⟩ = some z4 ∧ Below w.heap.size w w2 := by
  obtain ⟨h0, h1, h2, h3, h4, h5, h6, h7, h8, h9, hB⟩ := h
  obtain ⟨hc, hf⟩ := bcell hb
  have hz := hB.size
  exact ⟨by rw [hc _ _ (by omega)]; exact h0, by rw [hc _ _ (by omega)]; exact h1, by rw [hc _ _ (by omega)]; exact h2, by rw [hc _ _ (by omega)]; exact h3, by rw [hc _ _ (by omega)]; exact h4, by rw [hc _ _ (by omega)]; exact h5, by rw [hc _ _ (by omega)]; exact h6, by rw [hc _ _ (by omega)]; exact h7, by rw [hc _ _ (by omega)]; exact h8, by rw [hc _ _ (by omega)]; exact h9, hB.trans (hb.mono hz)⟩
theorem eqRow_below {w w1 : World} {g g' a : Nat} {z0 z1 z2 z3 z4 : Value} (h : w1.cell? ⟨g, a, none⟩ = some z0 ∧ w1.cell? ⟨g, a + 1, none⟩ = some z1 ∧ w1.cell? ⟨g, a + 2, none⟩ = some z2 ∧ w1.cell? ⟨g, a + 3, none⟩ = some z3 ∧ w1.cell? ⟨g, a + 4, none⟩ = some z4 ∧ w1.cell? ⟨g', a, none⟩ = some z0 ∧ w1.cell? ⟨g', a + 1, none⟩ = some z1 ∧ w1.cell? ⟨g', a + 2, none⟩ = some z2 ∧ w1.cell? ⟨g', a + 3, none⟩ = some z3 ∧ w1.cell? ⟨g', a + 4, none⟩ = some z4 ∧ Below w.heap.size w w1) : Below w.heap.size w w1 := h.2.2.2.2.2.2.2.2.2.2

set_option maxHeartbeats 2000000 in
theorem eqRowS_some (g g' n cap cap' : Nat) (Z : List Int) (w : World) (hn : Z.length = n * 5) (hl : n ≤ 1100000) (hg : g < w.heap.size) (hg' : g' < w.heap.size)
    (h : ∀ q z, Z[q]? = some z → w.cell? ⟨g, q, none⟩ = some (.int .i64 z)) (h' : ∀ q z, Z[q]? = some z → w.cell? ⟨g', q, none⟩ = some (.int .i64 z)) :
    Calls Try.prog 65 #[.slice (some ⟨g, 0, none⟩) n cap, .slice (some ⟨g', 0, none⟩) n cap'] w fun e w' => e = .returned (.bool true) ∧ Below w.heap.size w w' := by
  have Hn := Lib.hid hn
  have H := Lib.hid h
  have H' := Lib.hid h'
  clear h h' hn
  go_enter Try.func65, Try.ntmps65
  go_wp2
  go_loopw [5] (fun i wr => ∃ k : Nat, k ≤ n ∧ i = .int .i64 (k : Int) ∧ Below w.heap.size w wr) (fun i _ => n - (intOf i).toNat)
  case atStart => exact ⟨0, Nat.zero_le _, rfl, Below.refl _ _⟩
  case round =>
    obtain ⟨k, hk, rfl, hB⟩ := hrel
    by_cases hlt : k < n
    · obtain ⟨x0, p0⟩ := at_some (j := 0) Hn.out hlt (by omega)
      have c0 := H.out _ _ p0
      have d0 := H'.out _ _ p0
      have k0 : wr.cell? ⟨g, k * 5, none⟩ = some (.int .i64 x0) := by rw [hB.cell (p := ⟨g, k * 5, none⟩) hg]; exact c0
      have m0 : wr.cell? ⟨g', k * 5, none⟩ = some (.int .i64 x0) := by rw [hB.cell (p := ⟨g', k * 5, none⟩) hg']; exact d0
      clear c0 d0 p0
      obtain ⟨x1, p1⟩ := at_some (j := 1) Hn.out hlt (by omega)
      have c1 := H.out _ _ p1
      have d1 := H'.out _ _ p1
      have k1 : wr.cell? ⟨g, k * 5 + 1, none⟩ = some (.int .i64 x1) := by rw [hB.cell (p := ⟨g, k * 5 + 1, none⟩) hg]; exact c1
      have m1 : wr.cell? ⟨g', k * 5 + 1, none⟩ = some (.int .i64 x1) := by rw [hB.cell (p := ⟨g', k * 5 + 1, none⟩) hg']; exact d1
      clear c1 d1 p1
      obtain ⟨x2, p2⟩ := at_some (j := 2) Hn.out hlt (by omega)
      have c2 := H.out _ _ p2
      have d2 := H'.out _ _ p2
      have k2 : wr.cell? ⟨g, k * 5 + 2, none⟩ = some (.int .i64 x2) := by rw [hB.cell (p := ⟨g, k * 5 + 2, none⟩) hg]; exact c2
      have m2 : wr.cell? ⟨g', k * 5 + 2, none⟩ = some (.int .i64 x2) := by rw [hB.cell (p := ⟨g', k * 5 + 2, none⟩) hg']; exact d2
      clear c2 d2 p2
      obtain ⟨x3, p3⟩ := at_some (j := 3) Hn.out hlt (by omega)
      have c3 := H.out _ _ p3
      have d3 := H'.out _ _ p3
      have k3 : wr.cell? ⟨g, k * 5 + 3, none⟩ = some (.int .i64 x3) := by rw [hB.cell (p := ⟨g, k * 5 + 3, none⟩) hg]; exact c3
      have m3 : wr.cell? ⟨g', k * 5 + 3, none⟩ = some (.int .i64 x3) := by rw [hB.cell (p := ⟨g', k * 5 + 3, none⟩) hg']; exact d3
      clear c3 d3 p3
      obtain ⟨x4, p4⟩ := at_some (j := 4) Hn.out hlt (by omega)
      have c4 := H.out _ _ p4
      have d4 := H'.out _ _ p4
      have k4 : wr.cell? ⟨g, k * 5 + 4, none⟩ = some (.int .i64 x4) := by rw [hB.cell (p := ⟨g, k * 5 + 4, none⟩) hg]; exact c4
      have m4 : wr.cell? ⟨g', k * 5 + 4, none⟩ = some (.int .i64 x4) := by rw [hB.cell (p := ⟨g', k * 5 + 4, none⟩) hg']; exact d4
      clear c4 d4 p4
      have hk0 : (0 : Int) ≤ (k : Int) := by omega
      have hk1 : (k : Int) < (n : Int) := by omega
      go_wp2_with fail
      go_region_held3 (fun w' => w'.cell? ⟨g, k * 5, none⟩ = some (.int .i64 x0) ∧ w'.cell? ⟨g, k * 5 + 1, none⟩ = some (.int .i64 x1) ∧ w'.cell? ⟨g, k * 5 + 2, none⟩ = some (.int .i64 x2) ∧ w'.cell? ⟨g, k * 5 + 3, none⟩ = some (.int .i64 x3) ∧ w'.cell? ⟨g, k * 5 + 4, none⟩ = some (.int .i64 x4) ∧ w'.cell? ⟨g', k * 5, none⟩ = some (.int .i64 x0) ∧ w'.cell? ⟨g', k * 5 + 1, none⟩ = some (.int .i64 x1) ∧ w'.cell? ⟨g', k * 5 + 2, none⟩ = some (.int .i64 x2) ∧ w'.cell? ⟨g', k * 5 + 3, none⟩ = some (.int .i64 x3) ∧ w'.cell? ⟨g', k * 5 + 4, none⟩ = some (.int .i64 x4) ∧ Below w.heap.size w w') (first | assumption | exact ⟨k0, k1, k2, k3, k4, m0, m1, m2, m3, m4, hB.drew⟩ | exact eqRow_keep hg hg' (by assumption) (by assumption))
        (first | (go_at_call 73; refine (eqRow_same _ _ _ _ _ _).mono ?_; rintro e w2 ⟨rfl, hb⟩))
      go_wp2_with fail
      have hE := eqRow_below (by assumption)
      go_roundw
      case rel => exact ⟨k + 1, by omega, by go_num, hE⟩
      case measure => simp [intOf]; omega
    · have hge : ¬ ((k : Int) < (n : Int)) := by omega
      go_wp2
      go_ret
      exact ⟨rfl, hB⟩

theorem eqRowS_same (Z : List Int) (n lo hi lo' hi' : Nat) (v v' : Value) (w : World) (hr : Row 5 w lo hi v n Z) (hr' : Row 5 w lo' hi' v' n Z) (hh : hi ≤ w.heap.size) (hh' : hi' ≤ w.heap.size) :
    Calls Try.prog 65 #[v, v'] w fun e w' => e = .returned (.bool true) ∧ Below w.heap.size w w' := by
  obtain ⟨h0, hr⟩ := hr
  obtain ⟨_, hr'⟩ := hr'
  rcases hr with ⟨hL, a, c, rfl⟩ | ⟨g, cap, rfl, h1, h2, h3, h4, h5⟩
  · rcases hr' with ⟨_, a', c', rfl⟩ | ⟨g', cap', rfl, h1', h2', h3', h4', h5'⟩
    · exact (eqRowS_nil a a' c c' w).mono fun _ _ ⟨h1, h2⟩ => ⟨h1, h2 ▸ Below.refl _ _⟩
    · subst hL
      exact (eqRowS_nil a _ c cap' w).mono fun _ _ ⟨h1, h2⟩ => ⟨h1, h2 ▸ Below.refl _ _⟩
  · rcases hr' with ⟨hL, a', c', rfl⟩ | ⟨g', cap', rfl, h1', h2', h3', h4', h5'⟩
    · subst hL
      exact (eqRowS_nil _ a' cap c' w).mono fun _ _ ⟨h1, h2⟩ => ⟨h1, h2 ▸ Below.refl _ _⟩
    · exact eqRowS_some g g' n cap cap' Z w h0 h3 (by omega) (by omega) h4 h4'

set_option maxHeartbeats 1000000 in
theorem markRowS_nil (a : Option Addr) (c : Nat) (k : Int) (w : World) :
    Calls Try.prog 66 #[.slice a 0 c, .int .i64 k] w fun e w' => e = .returned (.int .i64 k) ∧ w = w' := by
  go_enter Try.func66, Try.ntmps66
  go_wp2
  go_loop [1, 5] (fun q i => q = .int .i64 k ∧ i = .int .i64 0) (fun _ i => (intOf i).toNat)
  case atStart => exact ⟨rfl, rfl⟩
  case round =>
    obtain ⟨rfl, rfl⟩ := hrel
    go_wp2
    go_ret
    exact ⟨rfl, rfl⟩

set_option maxHeartbeats 2000000 in
theorem markRowS_some (g n cap : Nat) (Z : List Int) (k : Int) (w : World) (hn : Z.length = n * 5) (hl : n ≤ 1100000) (hk0 : 0 ≤ k) (hk1 : k ≤ 1000000000)
    (h : ∀ q z, Z[q]? = some z → w.cell? ⟨g, q, none⟩ = some (.int .i64 z)) (hf : ∀ o, w.frozen? ⟨g, o, none⟩ = false) :
    Calls Try.prog 66 #[.slice (some ⟨g, 0, none⟩) n cap, .int .i64 k] w fun e w' => e = .returned (.int .i64 (k + ((n * 5 : Nat) : Int))) ∧ Marked w w' g Z k (n * 5) := by
  have Hn := Lib.hid hn
  have H0 : Marked w w g Z k (0 * 5) := ⟨Only.refl _ _, hf, fun j hj => absurd hj (by omega), fun j p _ hp => h j p hp⟩
  clear h hn hf
  go_enter Try.func66, Try.ntmps66
  go_wp2
  go_loopw [1, 5] (fun q i wr => ∃ j : Nat, j ≤ n ∧ i = .int .i64 (j : Int) ∧ q = .int .i64 (k + 5 * (j : Int)) ∧ Marked w wr g Z k (j * 5)) (fun _ i _ => n - (intOf i).toNat)
  case atStart => exact ⟨0, Nat.zero_le _, rfl, by simp, H0⟩
  case round =>
    obtain ⟨j, hj, rfl, rfl, hM⟩ := hrel
    by_cases hlt : j < n
    · obtain ⟨y0, p0⟩ := at_some (j := 0) Hn.out hlt (by omega)
      obtain ⟨y1, p1⟩ := at_some (j := 1) Hn.out hlt (by omega)
      obtain ⟨y2, p2⟩ := at_some (j := 2) Hn.out hlt (by omega)
      obtain ⟨y3, p3⟩ := at_some (j := 3) Hn.out hlt (by omega)
      obtain ⟨y4, p4⟩ := at_some (j := 4) Hn.out hlt (by omega)
      have hS1 := (hM).one p0 (u := k + 5 * (j : Int)) (by push_cast; omega)
      have hS2 := (hS1).one p1 (u := k + 5 * (j : Int) + 1) (by push_cast; omega)
      have hS3 := (hS2).one p2 (u := k + 5 * (j : Int) + 1 + 1) (by push_cast; omega)
      have hS4 := (hS3).one p3 (u := k + 5 * (j : Int) + 1 + 1 + 1) (by push_cast; omega)
      have hS5 := (hS4).one p4 (u := k + 5 * (j : Int) + 1 + 1 + 1 + 1) (by push_cast; omega)
      have c0 := hM.2.2.2 (j * 5) _ (by omega) p0
      have f0 := hM.2.1 (j * 5)
      have c1 := hM.2.2.2 (j * 5 + 1) _ (by omega) p1
      have f1 := hM.2.1 (j * 5 + 1)
      have c2 := hM.2.2.2 (j * 5 + 2) _ (by omega) p2
      have f2 := hM.2.1 (j * 5 + 2)
      have c3 := hM.2.2.2 (j * 5 + 3) _ (by omega) p3
      have f3 := hM.2.1 (j * 5 + 3)
      have c4 := hM.2.2.2 (j * 5 + 4) _ (by omega) p4
      have f4 := hM.2.1 (j * 5 + 4)
      have Hs := Lib.hid hS5
      clear hS1 p0 hS2 p1 hS3 p2 hS4 p3 hS5 p4 hM
      have q0 : (0 : Int) ≤ (j : Int) := by omega
      have q1 : (j : Int) < (n : Int) := by omega
      go_wp2
      go_roundw
      case rel => exact ⟨j + 1, by omega, by go_num, by go_num, by have hh := Hs.out; rw [show (j + 1) * 5 = j * 5 + 5 by omega]; exact hh⟩
      case measure => simp [intOf]; omega
    · have hge : ¬ ((j : Int) < (n : Int)) := by omega
      obtain rfl : j = n := by omega
      have Hm := Lib.hid hM
      clear hM
      go_wp2
      go_ret
      exact ⟨ret_int (by push_cast; omega), Hm.out⟩

set_option maxHeartbeats 1000000 in
theorem heldRowS_nil (a : Option Addr) (c : Nat) (k : Int) (w : World) :
    Calls Try.prog 67 #[.slice a 0 c, .int .i64 k] w fun e w' => e = .returned (.int .i64 k) ∧ w = w' := by
  go_enter Try.func67, Try.ntmps67
  go_wp2
  go_loop [1, 5] (fun q i => q = .int .i64 k ∧ i = .int .i64 0) (fun _ i => (intOf i).toNat)
  case atStart => exact ⟨rfl, rfl⟩
  case round =>
    obtain ⟨rfl, rfl⟩ := hrel
    go_wp2
    go_ret
    exact ⟨rfl, rfl⟩

set_option maxHeartbeats 2000000 in
theorem heldRowS_some (g n cap : Nat) (k : Int) (w : World) (hl : n ≤ 1100000) (hk0 : 0 ≤ k) (hk1 : k ≤ 1000000000)
    (h : ∀ q, q < n * 5 → w.cell? ⟨g, q, none⟩ = some (.int .i64 (k + (q : Int)))) :
    Calls Try.prog 67 #[.slice (some ⟨g, 0, none⟩) n cap, .int .i64 k] w fun e w' => e = .returned (.int .i64 (k + ((n * 5 : Nat) : Int))) ∧ w = w' := by
  have H := Lib.hid h
  clear h
  go_enter Try.func67, Try.ntmps67
  go_wp2
  go_loop [1, 5] (fun q i => ∃ j : Nat, j ≤ n ∧ i = .int .i64 (j : Int) ∧ q = .int .i64 (k + 5 * (j : Int))) (fun _ i => n - (intOf i).toNat)
  case atStart => exact ⟨0, Nat.zero_le _, rfl, by simp⟩
  case round =>
    obtain ⟨j, hj, rfl, rfl⟩ := hrel
    by_cases hlt : j < n
    · have c0 : w.cell? ⟨g, j * 5, none⟩ = some (.int .i64 (k + 5 * (j : Int))) := by rw [H.out (j * 5) (by omega)]; simp only [Option.some.injEq, Value.int.injEq, true_and]; push_cast; omega
      have c1 : w.cell? ⟨g, j * 5 + 1, none⟩ = some (.int .i64 (k + 5 * (j : Int) + 1)) := by rw [H.out (j * 5 + 1) (by omega)]; simp only [Option.some.injEq, Value.int.injEq, true_and]; push_cast; omega
      have c2 : w.cell? ⟨g, j * 5 + 2, none⟩ = some (.int .i64 (k + 5 * (j : Int) + 1 + 1)) := by rw [H.out (j * 5 + 2) (by omega)]; simp only [Option.some.injEq, Value.int.injEq, true_and]; push_cast; omega
      have c3 : w.cell? ⟨g, j * 5 + 3, none⟩ = some (.int .i64 (k + 5 * (j : Int) + 1 + 1 + 1)) := by rw [H.out (j * 5 + 3) (by omega)]; simp only [Option.some.injEq, Value.int.injEq, true_and]; push_cast; omega
      have c4 : w.cell? ⟨g, j * 5 + 4, none⟩ = some (.int .i64 (k + 5 * (j : Int) + 1 + 1 + 1 + 1)) := by rw [H.out (j * 5 + 4) (by omega)]; simp only [Option.some.injEq, Value.int.injEq, true_and]; push_cast; omega
      have q0 : (0 : Int) ≤ (j : Int) := by omega
      have q1 : (j : Int) < (n : Int) := by omega
      go_wp2
      go_round
      case rel => exact ⟨j + 1, by omega, by go_num, by go_num⟩
      case measure => simp [intOf]; omega
    · have hge : ¬ ((j : Int) < (n : Int)) := by omega
      obtain rfl : j = n := by omega
      go_wp2
      go_ret
      exact ⟨ret_int (by push_cast; omega), rfl⟩

/-- mark over a slice that holds Z, and what it then holds. -/
theorem markRowS (Z : List Int) (n lo hi : Nat) (v : Value) (k : Int) (w : World) (hr : Row 5 w lo hi v n Z) (hl : n ≤ 1100000) (hk0 : 0 ≤ k) (hk1 : k ≤ 1000000000) :
    Calls Try.prog 66 #[v, .int .i64 k] w fun e w' => e = .returned (.int .i64 (k + ((n * 5 : Nat) : Int))) ∧ Row 5 w' lo hi v n (marks k (n * 5)) ∧ Turned lo hi w w' := by
  obtain ⟨h0, hr⟩ := hr
  rcases hr with ⟨hL, a, c, rfl⟩ | ⟨g, cap, rfl, h1, h2, h3, h4, h5⟩
  · subst hL
    exact (markRowS_nil a c k w).mono fun _ _ ⟨h1, h2⟩ => by subst h2; exact ⟨by rw [h1]; simp, ⟨by simp [marks_len], .inl ⟨rfl, a, c, rfl⟩⟩, Turned.of_only (g := 0) (Only.refl _ _) (.inr rfl)⟩
  · refine (markRowS_some g n cap Z k w h0 h3 hk0 hk1 h4 h5).mono fun e w' ⟨he, hM⟩ => ⟨he, ⟨marks_len _ _, .inr ⟨g, cap, rfl, h1, h2, h3, fun q z hz => ?_, hM.2.1⟩⟩, Turned.of_only hM.1 (.inl ⟨h1, h2⟩)⟩
    have hq : q < n * 5 := by have := (List.getElem?_eq_some_iff.1 hz).1; rwa [marks_len] at this
    rw [marks_at _ _ _ hq] at hz
    obtain rfl := Option.some.inj hz
    exact hM.2.2.1 q hq
theorem heldRowS (n lo hi : Nat) (v : Value) (k : Int) (w : World) (hr : Row 5 w lo hi v n (marks k (n * 5))) (hl : n ≤ 1100000) (hk0 : 0 ≤ k) (hk1 : k ≤ 1000000000) :
    Calls Try.prog 67 #[v, .int .i64 k] w fun e w' => e = .returned (.int .i64 (k + ((n * 5 : Nat) : Int))) ∧ w = w' := by
  obtain ⟨h0, hr⟩ := hr
  rcases hr with ⟨hL, a, c, rfl⟩ | ⟨g, cap, rfl, h1, h2, h3, h4, h5⟩
  · subst hL
    exact (heldRowS_nil a c k w).mono fun _ _ ⟨h1, h2⟩ => ⟨by rw [h1]; simp, h2⟩
  · exact heldRowS_some g n cap k w h3 hk0 hk1 fun q hq => h4 q _ (marks_at _ _ _ hq)

theorem markRowS_K (K : Int) (Z : List Int) (n lo hi : Nat) (v : Value) (w : World) (hK : K = 1 + ((n * 5 : Nat) : Int)) (hr : Row 5 w lo hi v n Z) (hl : n ≤ 1100000) :
    Calls Try.prog 66 #[v, .int .i64 1] w fun e w' => e = .returned (.int .i64 K) ∧ Row 5 w' lo hi v n (marks 1 (n * 5)) ∧ Turned lo hi w w' := by
  subst hK
  exact markRowS Z n lo hi v 1 w hr hl (by omega) (by omega)
theorem heldRowS_K (K : Int) (n lo hi : Nat) (v : Value) (w : World) (hK : K = 1 + ((n * 5 : Nat) : Int)) (hr : Row 5 w lo hi v n (marks 1 (n * 5))) (hl : n ≤ 1100000) :
    Calls Try.prog 67 #[v, .int .i64 1] w fun e w' => e = .returned (.int .i64 K) ∧ w = w' := by
  subst hK
  exact heldRowS n lo hi v 1 w hr hl (by omega) (by omega)
theorem szRowS_fit (a : Option Addr) (n c : Nat) (l : Int) (w : World) (hn : n ≤ maxLen) (h1 : l ≤ 1048576) (h0 : (n : Int) ≤ l) :
    Calls Try.prog 62 #[.slice a n c, .int .i64 l] w fun e w' => e = .returned (.int .i64 (l - (n : Int))) ∧ w = w' := by
  unfold maxLen at hn
  go_enter Try.func62, Try.ntmps62
  go_wp2
  go_ret
  exact ⟨rfl, rfl⟩
theorem szRowS_big (a : Option Addr) (n c : Nat) (l : Int) (w : World) (hn : n ≤ maxLen) (h1 : l ≤ 1048576) (h0 : 0 ≤ l) (h2 : l < (n : Int)) :
    Calls Try.prog 62 #[.slice a n c, .int .i64 l] w fun e w' => e = .returned (.int .i64 (-1)) ∧ w = w' := by
  unfold maxLen at hn
  go_enter Try.func62, Try.ntmps62
  go_wp2
  go_ret
  exact ⟨rfl, rfl⟩

theorem Try.info56 : (Try.prog.info? 56).map (fun i => (i.zero, i.size, i.bytes)) = some (some (.agg #[.int .i64 0, .int .i64 0, .int .i64 0, .int .i64 0, .int .i64 0]), 5, 40) := by kernel_rfl

set_option maxHeartbeats 2000000 in
theorem toRowS_any (v : Value) (n : Nat) (Z : Nat → Int) (w : World) (hA : Arg 5 w v n Z) (hn : n ≤ 1048576) :
    Calls Try.prog 63 #[v] w fun e w' => ∃ rv, e = .returned rv ∧ Row 5 w' w.heap.size w'.heap.size rv n ((List.range (n * 5)).map Z) ∧ Below w.heap.size w w' := by
  obtain ⟨hI, _, hA⟩ := hA
  obtain ⟨i39, hi, hz0, hz1, hz2⟩ := info_parts Try.info56
  obtain ⟨a, c, rfl, hcell⟩ : ∃ a c, v = .slice a n c ∧ ∀ q, q < n * 5 → ∃ b off, a = some ⟨b, off, none⟩ ∧ b < w.heap.size ∧ ∀ q, q < n * 5 → w.cell? ⟨b, off + q, none⟩ = some (.int .i64 (Z q)) := by
    rcases hA with ⟨rfl, a, c, rfl⟩ | ⟨b, off, cap, rfl, hb, hc⟩
    · exact ⟨a, c, rfl, fun q hq => by omega⟩
    · exact ⟨_, cap, rfl, fun q hq => ⟨b, off, rfl, hb, hc⟩⟩
  have HI := Lib.hid hI
  have HC := Lib.hid hcell
  clear hI hcell hA
  go_enter Try.func63, Try.ntmps63
  go_wp2_with (at_make; refine wpList_make_full _ rfl _ _ 54 rfl w.heap.size 56 i39 (.agg #[.int .i64 0, .int .i64 0, .int .i64 0, .int .i64 0, .int .i64 0]) 5 Try.underlying54 hi hz0 hz1 .i64 .i64 _ _ n rfl rfl rfl rfl ?b2 ?b3 ?b4 ?_)
  case b2 => rw [hz2]; omega
  case b3 => unfold maxLen; omega
  case b4 => exact Nat.le_refl _
  intro w1 hown hgr
  have HF := Lib.hid (Fill.start (F := Z) hown hgr)
  clear hi hz0 hz1 hz2 hown hgr
  go_wp2
  go_loopw [4] (fun i wr => ∃ j : Nat, j ≤ n ∧ i = .int .i64 (j : Int) ∧ Hid (Fill w wr w.heap.size (n * 5) (j * 5) Z)) (fun i _ => n - (intOf i).toNat)
  case atStart => exact ⟨0, Nat.zero_le _, rfl, by rw [Nat.zero_mul]; exact HF⟩
  case round =>
    obtain ⟨j, hj, rfl, hF⟩ := hrel
    by_cases hlt : j < n
    · have hjk : j * 5 + 5 ≤ n * 5 := by have := Nat.mul_le_mul_right 5 (show j + 1 ≤ n by omega); omega
      obtain ⟨b, off, rfl, hb, hc⟩ := HC.out (j * 5) (by omega)
      have c0 := hc (j * 5) (by omega)
      have d0 : wr.cell? ⟨b, off + j * 5, none⟩ = some (.int .i64 (Z (j * 5))) := by first | (rw [hF.out.1.cell (p := ⟨b, off + (j * 5), none⟩) hb] ; exact c0) | (rw [show off + j * 5 = off + (j * 5) by omega, hF.out.1.cell (p := ⟨b, off + (j * 5), none⟩) hb]; exact c0)
      clear c0
      have c1 := hc (j * 5 + 1) (by omega)
      have d1 : wr.cell? ⟨b, off + j * 5 + 1, none⟩ = some (.int .i64 (Z (j * 5 + 1))) := by first | (rw [hF.out.1.cell (p := ⟨b, off + (j * 5 + 1), none⟩) hb] ; exact c1) | (rw [show off + j * 5 + 1 = off + (j * 5 + 1) by omega, hF.out.1.cell (p := ⟨b, off + (j * 5 + 1), none⟩) hb]; exact c1)
      clear c1
      have c2 := hc (j * 5 + 2) (by omega)
      have d2 : wr.cell? ⟨b, off + j * 5 + 2, none⟩ = some (.int .i64 (Z (j * 5 + 2))) := by first | (rw [hF.out.1.cell (p := ⟨b, off + (j * 5 + 2), none⟩) hb] ; exact c2) | (rw [show off + j * 5 + 2 = off + (j * 5 + 2) by omega, hF.out.1.cell (p := ⟨b, off + (j * 5 + 2), none⟩) hb]; exact c2)
      clear c2
      have c3 := hc (j * 5 + 3) (by omega)
      have d3 : wr.cell? ⟨b, off + j * 5 + 3, none⟩ = some (.int .i64 (Z (j * 5 + 3))) := by first | (rw [hF.out.1.cell (p := ⟨b, off + (j * 5 + 3), none⟩) hb] ; exact c3) | (rw [show off + j * 5 + 3 = off + (j * 5 + 3) by omega, hF.out.1.cell (p := ⟨b, off + (j * 5 + 3), none⟩) hb]; exact c3)
      clear c3
      have c4 := hc (j * 5 + 4) (by omega)
      have d4 : wr.cell? ⟨b, off + j * 5 + 4, none⟩ = some (.int .i64 (Z (j * 5 + 4))) := by first | (rw [hF.out.1.cell (p := ⟨b, off + (j * 5 + 4), none⟩) hb] ; exact c4) | (rw [show off + j * 5 + 4 = off + (j * 5 + 4) by omega, hF.out.1.cell (p := ⟨b, off + (j * 5 + 4), none⟩) hb]; exact c4)
      clear c4
      clear hc
      have q0 : (0 : Int) ≤ (j : Int) := by omega
      have q1 : (j : Int) < (n : Int) := by omega
      go_wp2_with fail
      go_at_call 72
      refine (toRow_any (Z (j * 5)) (Z (j * 5 + 1)) (Z (j * 5 + 2)) (Z (j * 5 + 3)) (Z (j * 5 + 4)) wr).mono ?_
      rintro e w2 ⟨rfl, hb2⟩
      have hF2 := hF.out.below hb2
      obtain ⟨u0, e0⟩ := hF2.2.2.2.2.2 (j * 5) (by omega)
      have f0 := hF2.2.2.2.1 (j * 5)
      obtain ⟨u1, e1⟩ := hF2.2.2.2.2.2 (j * 5 + 1) (by omega)
      have f1 := hF2.2.2.2.1 (j * 5 + 1)
      obtain ⟨u2, e2⟩ := hF2.2.2.2.2.2 (j * 5 + 2) (by omega)
      have f2 := hF2.2.2.2.1 (j * 5 + 2)
      obtain ⟨u3, e3⟩ := hF2.2.2.2.2.2 (j * 5 + 3) (by omega)
      have f3 := hF2.2.2.2.1 (j * 5 + 3)
      obtain ⟨u4, e4⟩ := hF2.2.2.2.2.2 (j * 5 + 4) (by omega)
      have f4 := hF2.2.2.2.1 (j * 5 + 4)
      have hS1 := (hF2).one (u := Z (j * 5)) (by omega) rfl
      have hS2 := (hS1).one (u := Z (j * 5 + 1)) (by omega) rfl
      have hS3 := (hS2).one (u := Z (j * 5 + 2)) (by omega) rfl
      have hS4 := (hS3).one (u := Z (j * 5 + 3)) (by omega) rfl
      have hS5 := (hS4).one (u := Z (j * 5 + 4)) (by omega) rfl
      have HS := Lib.hid hS5
      clear hF2 hS1 hS2 hS3 hS4 hS5 hb2 hF d0 d1 d2 d3 d4
      go_wp2
      go_roundw
      case rel => exact ⟨j + 1, by omega, by go_num, by have hh := HS.out; rw [show (j + 1) * 5 = j * 5 + 5 by omega]; exact hh⟩
      case measure => simp [intOf]; omega
    · have hge : ¬ ((j : Int) < (n : Int)) := by omega
      obtain rfl : j = n := by omega
      go_wp2
      go_ret
      exact ⟨_, rfl, hF.out.row (by omega), hF.out.1⟩

theorem szRowS_any (a : Option Addr) (n c : Nat) (l : Int) (w : World) (hn : n ≤ maxLen) (h0 : 0 ≤ l) (h1 : l ≤ 1048576) :
    Calls Try.prog 62 #[.slice a n c, .int .i64 l] w fun e w' => e = .returned (.int .i64 (if l - (n : Int) < 0 then -1 else l - (n : Int))) ∧ Below w.heap.size w w' := by
  unfold maxLen at hn
  by_cases h : l - (n : Int) < 0
  · rw [if_pos h]
    go_enter Try.func62, Try.ntmps62
    go_wp2
    go_ret
    exact ⟨rfl, Below.refl _ _⟩
  · rw [if_neg h]
    go_enter Try.func62, Try.ntmps62
    go_wp2
    go_ret
    exact ⟨rfl, Below.refl _ _⟩
theorem markRowS_any (k : Int) (Z : List Int) (n lo hi : Nat) (v : Value) (w : World) (hk0 : 0 ≤ k) (hk1 : k ≤ 1000000000) (hn : n ≤ 1100000) (hr : Row 5 w lo hi v n Z) :
    Calls Try.prog 66 #[v, .int .i64 k] w fun e w' => e = .returned (.int .i64 (k + ((n * 5 : Nat) : Int))) ∧ Row 5 w' lo hi v n (marks k (n * 5)) ∧ Turned lo hi w w' := markRowS Z n lo hi v k w hr hn hk0 hk1
theorem heldRowS_any (k : Int) (n lo hi : Nat) (v : Value) (w : World) (hk0 : 0 ≤ k) (hk1 : k ≤ 1000000000) (hn : n ≤ 1100000) (hr : Row 5 w lo hi v n (marks k (n * 5))) :
    Calls Try.prog 67 #[v, .int .i64 k] w fun e w' => e = .returned (.int .i64 (k + ((n * 5 : Nat) : Int))) ∧ w = w' := heldRowS n lo hi v k w hr hn hk0 hk1

end Go.Proofs.Ytnaifkmganngfaa
