/- Slices of prefixes: what it means that one holds a list; the laws' eq, mark and held over them. -/
import Derived.Test.YtegffibamkaeiabWx
namespace Go.Proofs.Ytegffibamkaeiab
open Go.RowKit

/-- The slice v holds the prefixes L in world w; its block, if it has one, lies from lo on and below hi, and is not frozen. -/
def Row (w : World) (lo hi : Nat) (v : Value) (L : List (Int × Int)) : Prop :=
  (L = [] ∧ ∃ a c, v = .slice a 0 c) ∨
  ∃ g cap, v = .slice (some ⟨g, 0, none⟩) L.length cap ∧ lo ≤ g ∧ g < hi ∧ L.length ≤ 1000000 ∧
    (∀ i p, L[i]? = some p → w.cell? ⟨g, i * 2, none⟩ = some (.int .i64 p.1) ∧ w.cell? ⟨g, i * 2 + 1, none⟩ = some (.int .i64 p.2)) ∧
    (∀ o, w.frozen? ⟨g, o, none⟩ = false)

theorem Row.below {w w' : World} {B lo hi : Nat} {v : Value} {L : List (Int × Int)} (h : Row w lo hi v L) (hb : Below B w w') (hB : hi ≤ B) : Row w' lo hi v L := by
  rcases h with h | ⟨g, cap, rfl, h1, h2, h3, h4, h5⟩
  · exact .inl h
  · refine .inr ⟨g, cap, rfl, h1, h2, h3, fun i p hp => ?_, fun o => ?_⟩
    · rw [hb.cell (p := ⟨g, i * 2, none⟩) (by show g < B; omega), hb.cell (p := ⟨g, i * 2 + 1, none⟩) (by show g < B; omega)]; exact h4 i p hp
    · rw [hb.frozen (p := ⟨g, o, none⟩) (by show g < B; omega)]; exact h5 o

set_option maxHeartbeats 1000000 in
theorem eqP_same (net n : Int) (w : World) :
    Calls Try.prog 29 #[.agg #[.int .i64 net, .int .i64 n], .agg #[.int .i64 net, .int .i64 n]] w fun e w' => e = .returned (.bool true) ∧ Below w.heap.size w w' := by
  go_enter Try.func29, Try.ntmps29
  go_wp2_with fail
  go_ret
  exact ⟨rfl, (((Below.refl _ _).alloc (Nat.le_refl _) _).alloc (by simp) _)⟩

set_option maxHeartbeats 1000000 in
theorem eqS_nil (a a' : Option Addr) (c c' : Nat) (w : World) :
    Calls Try.prog 9 #[.slice a 0 c, .slice a' 0 c'] w fun e w' => e = .returned (.bool true) ∧ w = w' := by
  go_enter Try.func9, Try.ntmps9
  go_wp2
  go_loop [5] (fun i => i = .int .i64 0) (fun i => (intOf i).toNat)
  case atStart => exact rfl
  case round =>
    subst hrel
    go_wp2
    go_ret
    exact ⟨rfl, rfl⟩

theorem eq_keep {w w1 w2 : World} {g g' a : Nat} {x y : Value} (hg : g < w.heap.size) (hg' : g' < w.heap.size)
    (h : w1.cell? ⟨g, a, none⟩ = some x ∧ w1.cell? ⟨g, a + 1, none⟩ = some y ∧ w1.cell? ⟨g', a, none⟩ = some x ∧ w1.cell? ⟨g', a + 1, none⟩ = some y ∧ Below w.heap.size w w1) (hb : Below w1.heap.size w1 w2) :
    w2.cell? ⟨g, a, none⟩ = some x ∧ w2.cell? ⟨g, a + 1, none⟩ = some y ∧ w2.cell? ⟨g', a, none⟩ = some x ∧ w2.cell? ⟨g', a + 1, none⟩ = some y ∧ Below w.heap.size w w2 := by
  obtain ⟨h0, h1, h2, h3, h4⟩ := h
  obtain ⟨hc, hf⟩ := bcell hb
  have hz := h4.size
  exact ⟨by rw [hc _ _ (by omega)]; exact h0, by rw [hc _ _ (by omega)]; exact h1, by rw [hc _ _ (by omega)]; exact h2, by rw [hc _ _ (by omega)]; exact h3, h4.trans (hb.mono hz)⟩
theorem eq_below {w w1 : World} {g g' a : Nat} {x y : Value}
    (h : w1.cell? ⟨g, a, none⟩ = some x ∧ w1.cell? ⟨g, a + 1, none⟩ = some y ∧ w1.cell? ⟨g', a, none⟩ = some x ∧ w1.cell? ⟨g', a + 1, none⟩ = some y ∧ Below w.heap.size w w1) : Below w.heap.size w w1 := h.2.2.2.2

set_option maxHeartbeats 2000000 in
theorem eqS_some (g g' n cap cap' : Nat) (L : List (Int × Int)) (w : World) (hn : n = L.length) (hl : n ≤ 1000000) (hg : g < w.heap.size) (hg' : g' < w.heap.size)
    (h : ∀ i p, L[i]? = some p → w.cell? ⟨g, i * 2, none⟩ = some (.int .i64 p.1) ∧ w.cell? ⟨g, i * 2 + 1, none⟩ = some (.int .i64 p.2))
    (h' : ∀ i p, L[i]? = some p → w.cell? ⟨g', i * 2, none⟩ = some (.int .i64 p.1) ∧ w.cell? ⟨g', i * 2 + 1, none⟩ = some (.int .i64 p.2)) :
    Calls Try.prog 9 #[.slice (some ⟨g, 0, none⟩) n cap, .slice (some ⟨g', 0, none⟩) n cap'] w fun e w' => e = .returned (.bool true) ∧ Below w.heap.size w w' := by
  have Hn := Lib.hid hn
  have H := Lib.hid h
  have H' := Lib.hid h'
  clear h h' hn
  go_enter Try.func9, Try.ntmps9
  go_wp2
  go_loopw [5] (fun i wr => ∃ k : Nat, k ≤ n ∧ i = .int .i64 (k : Int) ∧ Below w.heap.size w wr) (fun i _ => n - (intOf i).toNat)
  case atStart => exact ⟨0, Nat.zero_le _, rfl, Below.refl _ _⟩
  case round =>
    obtain ⟨k, hk, rfl, hB⟩ := hrel
    by_cases hlt : k < n
    · obtain ⟨p, hp⟩ : ∃ p, L[k]? = some p := ⟨L[k]'(by rw [← Hn.out]; exact hlt), List.getElem?_eq_getElem _⟩
      obtain ⟨c0, c1⟩ := H.out k p hp
      obtain ⟨d0, d1⟩ := H'.out k p hp
      obtain ⟨x, y⟩ := p
      clear hp
      have k0 : wr.cell? ⟨g, k * 2, none⟩ = some (.int .i64 x) := by rw [hB.cell (p := ⟨g, k * 2, none⟩) hg]; exact c0
      have k1 : wr.cell? ⟨g, k * 2 + 1, none⟩ = some (.int .i64 y) := by rw [hB.cell (p := ⟨g, k * 2 + 1, none⟩) hg]; exact c1
      have m0 : wr.cell? ⟨g', k * 2, none⟩ = some (.int .i64 x) := by rw [hB.cell (p := ⟨g', k * 2, none⟩) hg']; exact d0
      have m1 : wr.cell? ⟨g', k * 2 + 1, none⟩ = some (.int .i64 y) := by rw [hB.cell (p := ⟨g', k * 2 + 1, none⟩) hg']; exact d1
      clear c0 c1 d0 d1
      have hk0 : (0 : Int) ≤ (k : Int) := by omega
      have hk1 : (k : Int) < (n : Int) := by omega
      go_wp2_with fail
      go_region_held3 (fun w' => w'.cell? ⟨g, k * 2, none⟩ = some (.int .i64 x) ∧ w'.cell? ⟨g, k * 2 + 1, none⟩ = some (.int .i64 y) ∧ w'.cell? ⟨g', k * 2, none⟩ = some (.int .i64 x) ∧ w'.cell? ⟨g', k * 2 + 1, none⟩ = some (.int .i64 y) ∧ Below w.heap.size w w') (first | assumption | exact ⟨k0, k1, m0, m1, hB.drew⟩ | exact eq_keep hg hg' (by assumption) (by assumption))
        (first | (go_at_call 29; refine (eqP_same _ _ _).mono ?_; rintro e w2 ⟨rfl, hb⟩))
      go_wp2_with fail
      have hE := eq_below (by assumption)
      go_roundw
      case rel => exact ⟨k + 1, by omega, by go_num, hE⟩
      case measure => simp [intOf]; omega
    · have hge : ¬ ((k : Int) < (n : Int)) := by omega
      go_wp2
      go_ret
      exact ⟨rfl, hB⟩

theorem eqS_same (L : List (Int × Int)) (lo hi lo' hi' : Nat) (v v' : Value) (w : World) (hr : Row w lo hi v L) (hr' : Row w lo' hi' v' L) (hh : hi ≤ w.heap.size) (hh' : hi' ≤ w.heap.size) :
    Calls Try.prog 9 #[v, v'] w fun e w' => e = .returned (.bool true) ∧ Below w.heap.size w w' := by
  rcases hr with ⟨hL, a, c, rfl⟩ | ⟨g, cap, rfl, h1, h2, h3, h4, h5⟩
  · rcases hr' with ⟨_, a', c', rfl⟩ | ⟨g', cap', rfl, h1', h2', h3', h4', h5'⟩
    · exact (eqS_nil a a' c c' w).mono fun _ _ ⟨h1, h2⟩ => ⟨h1, h2 ▸ Below.refl _ _⟩
    · subst hL
      exact (eqS_nil a _ c cap' w).mono fun _ _ ⟨h1, h2⟩ => ⟨h1, h2 ▸ Below.refl _ _⟩
  · rcases hr' with ⟨hL, a', c', rfl⟩ | ⟨g', cap', rfl, h1', h2', h3', h4', h5'⟩
    · subst hL
      exact (eqS_nil _ a' cap c' w).mono fun _ _ ⟨h1, h2⟩ => ⟨h1, h2 ▸ Below.refl _ _⟩
    · exact eqS_some g g' L.length cap cap' L w rfl h3 (by omega) (by omega) h4 h4'

end Go.Proofs.Ytegffibamkaeiab
