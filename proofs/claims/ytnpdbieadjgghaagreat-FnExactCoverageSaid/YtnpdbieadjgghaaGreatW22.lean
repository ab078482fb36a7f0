/- Which of two trails is preferred. -/
import Derived.Test.YtnpdbieadjgghaaGreatW21
namespace Go.Proofs.YtnpdbieadjgghaaGreat
open Go.RowKit

theorem box2p_keep0 (w : World) (c0 c1 d0 d1 : Value) (T T' : TypeId) :
    ((w.alloc (.cells #[c0, c1] T)).alloc (.cells #[d0, d1] T')).drew.cell? ⟨w.heap.size, 0, none⟩ = some c0 ∧ ((w.alloc (.cells #[c0, c1] T)).alloc (.cells #[d0, d1] T')).drew.cell? ⟨w.heap.size, 1, none⟩ = some c1 ∧
    ((w.alloc (.cells #[c0, c1] T)).alloc (.cells #[d0, d1] T')).drew.cell? ⟨w.heap.size + 1, 0, none⟩ = some d0 ∧ ((w.alloc (.cells #[c0, c1] T)).alloc (.cells #[d0, d1] T')).drew.cell? ⟨w.heap.size + 1, 1, none⟩ = some d1 ∧
    w.heap.size + 1 < ((w.alloc (.cells #[c0, c1] T)).alloc (.cells #[d0, d1] T')).drew.heap.size ∧ Below w.heap.size w ((w.alloc (.cells #[c0, c1] T)).alloc (.cells #[d0, d1] T')).drew :=
  ⟨by simp [go_sem], by simp [go_sem], by simp [go_sem], by simp [go_sem], by simp [go_sem], (((Below.refl _ _).alloc (Nat.le_refl _) _).alloc (by simp) _).drew⟩
theorem box2p_box {w w1 : World} {c0 c1 d0 d1 : Value} {o : Obj}
    (h : w1.cell? ⟨w.heap.size, 0, none⟩ = some c0 ∧ w1.cell? ⟨w.heap.size, 1, none⟩ = some c1 ∧ w1.cell? ⟨w.heap.size + 1, 0, none⟩ = some d0 ∧ w1.cell? ⟨w.heap.size + 1, 1, none⟩ = some d1 ∧ w.heap.size + 1 < w1.heap.size ∧ Below w.heap.size w w1) :
    (w1.alloc o).cell? ⟨w.heap.size, 0, none⟩ = some c0 ∧ (w1.alloc o).cell? ⟨w.heap.size, 1, none⟩ = some c1 ∧ (w1.alloc o).cell? ⟨w.heap.size + 1, 0, none⟩ = some d0 ∧ (w1.alloc o).cell? ⟨w.heap.size + 1, 1, none⟩ = some d1 ∧ w.heap.size + 1 < (w1.alloc o).heap.size ∧ Below w.heap.size w (w1.alloc o) := by
  obtain ⟨h1, h2, h3, h4, h5, h6⟩ := h
  exact ⟨by rw [old_box (by omega)]; exact h1, by rw [old_box (by omega)]; exact h2, by rw [old_box (by omega)]; exact h3, by rw [old_box (by omega)]; exact h4, by simp; omega, h6.alloc (by omega) o⟩
theorem box2p_below {w w1 : World} {c0 c1 d0 d1 : Value}
    (h : w1.cell? ⟨w.heap.size, 0, none⟩ = some c0 ∧ w1.cell? ⟨w.heap.size, 1, none⟩ = some c1 ∧ w1.cell? ⟨w.heap.size + 1, 0, none⟩ = some d0 ∧ w1.cell? ⟨w.heap.size + 1, 1, none⟩ = some d1 ∧ w.heap.size + 1 < w1.heap.size ∧ Below w.heap.size w w1) : Below w.heap.size w w1 := h.2.2.2.2.2
theorem box2p_drew {w w1 : World} {c0 c1 d0 d1 : Value}
    (h : w1.cell? ⟨w.heap.size, 0, none⟩ = some c0 ∧ w1.cell? ⟨w.heap.size, 1, none⟩ = some c1 ∧ w1.cell? ⟨w.heap.size + 1, 0, none⟩ = some d0 ∧ w1.cell? ⟨w.heap.size + 1, 1, none⟩ = some d1 ∧ w.heap.size + 1 < w1.heap.size ∧ Below w.heap.size w w1) :
    w1.drew.cell? ⟨w.heap.size, 0, none⟩ = some c0 ∧ w1.drew.cell? ⟨w.heap.size, 1, none⟩ = some c1 ∧ w1.drew.cell? ⟨w.heap.size + 1, 0, none⟩ = some d0 ∧ w1.drew.cell? ⟨w.heap.size + 1, 1, none⟩ = some d1 ∧ w.heap.size + 1 < w1.drew.heap.size ∧ Below w.heap.size w w1.drew :=
  ⟨h.1, h.2.1, h.2.2.1, h.2.2.2.1, h.2.2.2.2.1, h.2.2.2.2.2.drew⟩


def or3 (x y z : Int) : Int := orI x (orI y z)
theorem or3_a {x y z : Int} (h : ¬ x = 0) : or3 x y z = x := by unfold or3 orI; rw [if_neg h]
theorem or3_b {x y z : Int} (h : x = 0) (h2 : ¬ y = 0) : or3 x y z = y := by unfold or3 orI; rw [if_pos h, if_neg h2]
theorem or3_c {x y z : Int} (h : x = 0) (h2 : y = 0) : or3 x y z = z := by unfold or3 orI; rw [if_pos h, if_pos h2]
set_option maxHeartbeats 1000000 in
theorem or3_any (g : Nat) (x y z : Int) (w : World) (h0 : w.cell? ⟨g, 0, none⟩ = some (.int .i64 x)) (h1 : w.cell? ⟨g, 1, none⟩ = some (.int .i64 y)) (h2 : w.cell? ⟨g, 2, none⟩ = some (.int .i64 z)) :
    Calls Tryz.prog 101 #[.slice (some ⟨g, 0, none⟩) 3 3] w fun e w' => e = .returned (.int .i64 (or3 x y z)) ∧ w = w' := by
  go_enter Tryz.func101, Tryz.ntmps101
  go_wp2
  go_loop [5, 8] (fun _ i => ∃ k : Nat, k ≤ 3 ∧ i = .int .i64 (k : Int) ∧ Hid ((1 ≤ k → x = 0) ∧ (2 ≤ k → y = 0) ∧ (3 ≤ k → z = 0))) (fun _ i => 3 - (intOf i).toNat)
  case atStart => exact ⟨0, by omega, rfl, by omega, by omega, by omega⟩
  case round =>
    obtain ⟨k, hk, rfl, hy⟩ := hrel
    have hk3 : k = 0 ∨ k = 1 ∨ k = 2 ∨ k = 3 := by omega
    rcases hk3 with rfl | rfl | rfl | rfl
    · clear hy
      by_cases hx : x = 0
      · have hz : (x != 0) = false := by simp [hx]
        have HX := Lib.hid hx
        clear hx
        go_wp2
        go_round
        case rel => exact ⟨1, by omega, by go_num, fun _ => HX.out, by omega, by omega⟩
        case measure => simp [intOf]
      · have hz : (x != 0) = true := by simp [hx]
        have HX := Lib.hid hx
        clear hx
        go_wp2
        go_ret
        exact ⟨by rw [or3_a HX.out]; rfl, rfl⟩
    · by_cases hx : y = 0
      · have hz : (y != 0) = false := by simp [hx]
        have HX := Lib.hid hx
        clear hx
        go_wp2
        go_round
        case rel => exact ⟨2, by omega, by go_num, fun _ => hy.out.1 (by omega), fun _ => HX.out, by omega⟩
        case measure => simp [intOf]
      · have hz : (y != 0) = true := by simp [hx]
        have HX := Lib.hid hx
        clear hx
        go_wp2
        go_ret
        exact ⟨by rw [or3_b (hy.out.1 (by omega)) HX.out]; rfl, rfl⟩
    · by_cases hx : z = 0
      · have hz : (z != 0) = false := by simp [hx]
        have HX := Lib.hid hx
        clear hx
        go_wp2
        go_round
        case rel => exact ⟨3, by omega, by go_num, fun _ => hy.out.1 (by omega), fun _ => hy.out.2.1 (by omega), fun _ => HX.out⟩
        case measure => simp [intOf]
      · have hz : (z != 0) = true := by simp [hx]
        have HX := Lib.hid hx
        clear hx
        go_wp2
        go_ret
        exact ⟨by rw [or3_c (hy.out.1 (by omega)) (hy.out.2.1 (by omega))]; rfl, rfl⟩
    · go_wp2
      go_ret
      exact ⟨by rw [or3_c (hy.out.1 (by omega)) (hy.out.2.1 (by omega)), hy.out.2.2 (by omega)]; rfl, rfl⟩

theorem or3_ltB (c1 c2 : Int) (A B : List Int) (na nb : Nat) (hA : A.length = na) (hB : B.length = nb) : decide (or3 (cmpI c1 c2) (cmpI (na : Int) (nb : Int)) (cmpL A B) < 0) = ltB (c1, A) (c2, B) := by
  subst hA hB
  unfold or3 orI ltB
  rw [← cmpL_lt A B]
  unfold cmpI
  by_cases h1 : c1 < c2
  · simp [h1]
  · by_cases h2 : c2 < c1
    · have h3 : ¬ c1 = c2 := by omega
      simp [h1, h2, h3]
    · have h3 : c1 = c2 := by omega
      subst h3
      by_cases h4 : A.length < B.length
      · have : (A.length : Int) < (B.length : Int) := by omega
        simp [h4]
      · by_cases h5 : B.length < A.length
        · have h6 : ¬ A.length = B.length := by omega
          simp [h4, h5, h6]
        · have h6 : A.length = B.length := by omega
          simp [h6]

set_option maxRecDepth 100000 in
set_option maxHeartbeats 4000000 in
theorem pref_any (c1 c2 : Int) (ga ca gb cb na nb : Nat) (A B : List Int) (w : World) (hA : A.length = na) (hB : B.length = nb) (hna : na ≤ 1100000) (hnb : nb ≤ 1100000) (hga : ga < w.heap.size) (hgb : gb < w.heap.size)
    (ha : ∀ q z, A[q]? = some z → w.cell? ⟨ga, q, none⟩ = some (.int .i64 z)) (hb : ∀ q z, B[q]? = some z → w.cell? ⟨gb, q, none⟩ = some (.int .i64 z)) :
    Calls Tryz.prog 95 #[.agg #[.int .i64 c1, .slice (some ⟨ga, 0, none⟩) na ca], .agg #[.int .i64 c2, .slice (some ⟨gb, 0, none⟩) nb cb]] w fun e w' => e = .returned (.bool (ltB (c1, A) (c2, B))) ∧ Below w.heap.size w w' := by
  have Ha := Lib.hid ha
  have Hb := Lib.hid hb
  have HL := Lib.hid (or3_ltB c1 c2 A B na nb hA hB)
  rw [← HL.out]
  have HAB := Lib.hid (And.intro hA hB)
  clear ha hb hA hB
  have hi := cmpI_in c1 c2
  have hi2 := cmpI_in (na : Int) (nb : Int)
  have hi3 := cmpL_in A B
  go_enter Tryz.func95, Tryz.ntmps95
  go_wp2_with fail
  go_region_held3 (fun w' => w'.cell? ⟨w.heap.size, 0, none⟩ = some (.int .i64 c1) ∧ w'.cell? ⟨w.heap.size, 1, none⟩ = some (.slice (some ⟨ga, 0, none⟩) na ca) ∧ w'.cell? ⟨w.heap.size + 1, 0, none⟩ = some (.int .i64 c2) ∧ w'.cell? ⟨w.heap.size + 1, 1, none⟩ = some (.slice (some ⟨gb, 0, none⟩) nb cb) ∧ w.heap.size + 1 < w'.heap.size ∧ Below w.heap.size w w') (first | assumption | exact box2p_keep0 _ _ _ _ _ _ _ | exact box2p_drew (by assumption) | exact box2p_box (by assumption))
    (first | (go_at_call 99; refine (cmp_any _ _ _).mono ?_; rintro e w2 ⟨rfl, rfl⟩) | (go_at_call 109; refine (compareS_any ga ca gb cb na nb A B _ HAB.out.1 HAB.out.2 hna hnb (fun q z hz => by rw [(box2p_below (by assumption)).cell (p := ⟨ga, q, none⟩) hga]; exact Ha.out q z hz) (fun q z hz => by rw [(box2p_below (by assumption)).cell (p := ⟨gb, q, none⟩) hgb]; exact Hb.out q z hz)).mono ?_; rintro e w2 ⟨rfl, rfl⟩) | (go_at_call 101; refine (or3_any _ (cmpI c1 c2) (cmpI (na : Int) (nb : Int)) (cmpL A B) _ (by simp [go_sem]) (by simp [go_sem]) (by simp [go_sem])).mono ?_; rintro e w2 ⟨rfl, rfl⟩))
  all_goals
    go_wp2_with fail
    go_ret
    exact ⟨rfl, box2p_below (by assumption)⟩

end Go.Proofs.YtnpdbieadjgghaaGreat
