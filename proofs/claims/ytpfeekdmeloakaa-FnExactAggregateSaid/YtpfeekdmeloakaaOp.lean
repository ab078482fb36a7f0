/- Which part of a prefix lies in a range. -/
import Derived.Test.YtpfeekdmeloakaaOo
namespace Go.Proofs.Ytpfeekdmeloakaa.Old
open Go.RowKit

theorem box2_keep0 (w : World) (c0 c1 d0 d1 : Value) (T T' : TypeId) :
    ((w.alloc (.cells #[c0, c1] T)).alloc (.cells #[d0, d1] T')).drew.cell? ⟨w.heap.size, 0, none⟩ = some c0 ∧ ((w.alloc (.cells #[c0, c1] T)).alloc (.cells #[d0, d1] T')).drew.cell? ⟨w.heap.size, 1, none⟩ = some c1 ∧
    ((w.alloc (.cells #[c0, c1] T)).alloc (.cells #[d0, d1] T')).drew.cell? ⟨w.heap.size + 1, 0, none⟩ = some d0 ∧ ((w.alloc (.cells #[c0, c1] T)).alloc (.cells #[d0, d1] T')).drew.cell? ⟨w.heap.size + 1, 1, none⟩ = some d1 ∧
    w.heap.size + 1 < ((w.alloc (.cells #[c0, c1] T)).alloc (.cells #[d0, d1] T')).drew.heap.size ∧ Below w.heap.size w ((w.alloc (.cells #[c0, c1] T)).alloc (.cells #[d0, d1] T')).drew :=
  ⟨by simp [go_sem], by simp [go_sem], by simp [go_sem], by simp [go_sem], by simp [go_sem], (((Below.refl _ _).alloc (Nat.le_refl _) _).alloc (by simp) _).drew⟩
theorem box2_drew {w w1 : World} {c0 c1 d0 d1 : Value}
    (h : w1.cell? ⟨w.heap.size, 0, none⟩ = some c0 ∧ w1.cell? ⟨w.heap.size, 1, none⟩ = some c1 ∧ w1.cell? ⟨w.heap.size + 1, 0, none⟩ = some d0 ∧ w1.cell? ⟨w.heap.size + 1, 1, none⟩ = some d1 ∧ w.heap.size + 1 < w1.heap.size ∧ Below w.heap.size w w1) :
    w1.drew.cell? ⟨w.heap.size, 0, none⟩ = some c0 ∧ w1.drew.cell? ⟨w.heap.size, 1, none⟩ = some c1 ∧ w1.drew.cell? ⟨w.heap.size + 1, 0, none⟩ = some d0 ∧ w1.drew.cell? ⟨w.heap.size + 1, 1, none⟩ = some d1 ∧ w.heap.size + 1 < w1.drew.heap.size ∧ Below w.heap.size w w1.drew :=
  ⟨h.1, h.2.1, h.2.2.1, h.2.2.2.1, h.2.2.2.2.1, h.2.2.2.2.2.drew⟩
theorem box2_keep {w w1 w2 : World} {c0 c1 d0 d1 : Value}
    (h : w1.cell? ⟨w.heap.size, 0, none⟩ = some c0 ∧ w1.cell? ⟨w.heap.size, 1, none⟩ = some c1 ∧ w1.cell? ⟨w.heap.size + 1, 0, none⟩ = some d0 ∧ w1.cell? ⟨w.heap.size + 1, 1, none⟩ = some d1 ∧ w.heap.size + 1 < w1.heap.size ∧ Below w.heap.size w w1)
    (hb : Below w1.heap.size w1 w2) :
    w2.cell? ⟨w.heap.size, 0, none⟩ = some c0 ∧ w2.cell? ⟨w.heap.size, 1, none⟩ = some c1 ∧ w2.cell? ⟨w.heap.size + 1, 0, none⟩ = some d0 ∧ w2.cell? ⟨w.heap.size + 1, 1, none⟩ = some d1 ∧ w.heap.size + 1 < w2.heap.size ∧ Below w.heap.size w w2 := by
  obtain ⟨h0, h1, h4, h5, h2, h3⟩ := h
  obtain ⟨hc, hf⟩ := bcell hb
  have := hb.size
  exact ⟨by rw [hc _ _ (by omega)]; exact h0, by rw [hc _ _ (by omega)]; exact h1, by rw [hc _ _ (by omega)]; exact h4, by rw [hc _ _ (by omega)]; exact h5, by omega, h3.trans (hb.mono (by omega))⟩
theorem box2_below {w w1 : World} {c0 c1 d0 d1 : Value}
    (h : w1.cell? ⟨w.heap.size, 0, none⟩ = some c0 ∧ w1.cell? ⟨w.heap.size, 1, none⟩ = some c1 ∧ w1.cell? ⟨w.heap.size + 1, 0, none⟩ = some d0 ∧ w1.cell? ⟨w.heap.size + 1, 1, none⟩ = some d1 ∧ w.heap.size + 1 < w1.heap.size ∧ Below w.heap.size w w1) : Below w.heap.size w w1 := h.2.2.2.2.2

set_option maxHeartbeats 1000000 in
theorem part_n1 (fr to net n : Int) (w : World) (h0 : 0 ≤ n) (h1 : n ≤ 16) (h2 : 0 ≤ net) (h3 : net ≤ 65535) (c1 : decide (net + psz n - 1 < fr) = true) :
    Calls Try.prog 116 #[.agg #[.int .i64 fr, .int .i64 to], .agg #[.int .i64 net, .int .i64 n]] w fun e w' => e = .returned (.int .i64 0) ∧ Below w.heap.size w w' := by
  go_enter Try.func116, Try.ntmps116
  go_wp2_with fail
  refine wp_region_held_drew (S := (fun w' => w'.cell? ⟨w.heap.size, 0, none⟩ = some (.int .i64 fr) ∧ w'.cell? ⟨w.heap.size, 1, none⟩ = some (.int .i64 to) ∧ w'.cell? ⟨w.heap.size + 1, 0, none⟩ = some (.int .i64 net) ∧ w'.cell? ⟨w.heap.size + 1, 1, none⟩ = some (.int .i64 n) ∧ w.heap.size + 1 < w'.heap.size ∧ Below w.heap.size w w')) (by kernel_rfl) ?_ (fun hHeld => ?_)
  · first | assumption | exact box2_keep0 _ _ _ _ _ _ _ | exact box2_drew (by assumption) | exact box2_keep (by assumption) (by assumption)
  refine step_read 0 6 rfl rfl (by kernel_rfl) (by kernel_rfl) (by kernel_rfl) (fun _ _ _ h => h) (by rfl) (v := ?_) (fun w hSw => ?_) (by assumption) ?_; rotate_left; (focus ((try dsimp only at hSw); go_simp; first | done | exact rfl)); simp only [List.set]
  refine step_read 2 8 rfl rfl (by kernel_rfl) (by kernel_rfl) (by kernel_rfl) (fun _ _ _ h => h) (by rfl) (v := ?_) (fun w hSw => ?_) (by assumption) ?_; rotate_left; (focus ((try dsimp only at hSw); go_simp; first | done | exact rfl)); simp only [List.set]
  refine step_read 3 9 rfl rfl (by kernel_rfl) (by kernel_rfl) (by kernel_rfl) (fun _ _ _ h => h) (by rfl) (v := ?_) (fun w hSw => ?_) (by assumption) ?_; rotate_left; (focus ((try dsimp only at hSw); go_simp; first | done | exact rfl)); simp only [List.set]
  (refine wpAnyH_ready (rs := [1]) (by kernel_rfl) (by simp) ?_; refine AllReadyH.cons rfl (fun K hK => ?_) AllReadyH.nil; go_simp; (go_at_call 109; refine (last_any _ _ _ h0 h1 h2 h3).mono ?_; rintro e w2 ⟨rfl, hb⟩); refine hK.out _ _ ?_ (fun hHeld => ?_); (focus (first | assumption | exact box2_keep0 _ _ _ _ _ _ _ | exact box2_drew (by assumption) | exact box2_keep (by assumption) (by assumption))); clear hK K)
  refine step_read 4 10 rfl rfl (by kernel_rfl) (by kernel_rfl) (by kernel_rfl) (fun _ _ _ h => h) (by rfl) (v := ?_) (fun w hSw => ?_) (by assumption) ?_; rotate_left; (focus ((try dsimp only at hSw); go_simp; first | done | exact rfl)); simp only [List.set]
  refine step_read 5 11 rfl rfl (by kernel_rfl) (by kernel_rfl) (by kernel_rfl) (fun _ _ _ h => h) (by rfl) (v := ?_) (fun w hSw => ?_) (by assumption) ?_; rotate_left; (focus ((try dsimp only at hSw); go_simp; first | done | exact rfl)); simp only [List.set]
  refine step_skip 6 12 rfl rfl (by kernel_rfl) (by kernel_rfl) (by kernel_rfl) (fun _ _ _ h => h) (by rfl) (by assumption) ?_; simp only [List.set]
  refine step_skip 7 13 rfl rfl (by kernel_rfl) (by kernel_rfl) (by kernel_rfl) (fun _ _ _ h => h) (by rfl) (by assumption) ?_; simp only [List.set]
  refine step_skip 8 14 rfl rfl (by kernel_rfl) (by kernel_rfl) (by kernel_rfl) (fun _ _ _ h => h) (by rfl) (by assumption) ?_; simp only [List.set]
  refine step_skip 9 15 rfl rfl (by kernel_rfl) (by kernel_rfl) (by kernel_rfl) (fun _ _ _ h => h) (by rfl) (by assumption) ?_; simp only [List.set]
  refine step_skip 10 16 rfl rfl (by kernel_rfl) (by kernel_rfl) (by kernel_rfl) (fun _ _ _ h => h) (by rfl) (by assumption) ?_; simp only [List.set]
  refine step_read 11 17 rfl rfl (by kernel_rfl) (by kernel_rfl) (by kernel_rfl) (fun _ _ _ h => h) (by rfl) (v := ?_) (fun w hSw => ?_) (by assumption) ?_; rotate_left; (focus ((try dsimp only at hSw); go_simp; first | done | exact rfl)); simp only [List.set]
  refine step_read 12 5 rfl rfl (by kernel_rfl) (by kernel_rfl) (by kernel_rfl) (fun _ _ _ h => h) (by rfl) (v := ?_) (fun w hSw => ?_) (by assumption) ?_; rotate_left; (focus ((try dsimp only at hSw); go_simp; first | done | exact rfl)); simp only [List.set]
  refine wpAnyH_done (by kernel_rfl) ?_ _
  go_wp2_with fail
  go_ret
  exact ⟨rfl, box2_below (by assumption)⟩

set_option maxHeartbeats 1000000 in
theorem part_n2 (fr to net n : Int) (w : World) (h0 : 0 ≤ n) (h1 : n ≤ 16) (h2 : 0 ≤ net) (h3 : net ≤ 65535) (c1 : decide (net + psz n - 1 < fr) = false) (c2 : decide (to < net) = true) :
    Calls Try.prog 116 #[.agg #[.int .i64 fr, .int .i64 to], .agg #[.int .i64 net, .int .i64 n]] w fun e w' => e = .returned (.int .i64 0) ∧ Below w.heap.size w w' := by
  go_enter Try.func116, Try.ntmps116
  go_wp2_with fail
  go_region_held3 (fun w' => w'.cell? ⟨w.heap.size, 0, none⟩ = some (.int .i64 fr) ∧ w'.cell? ⟨w.heap.size, 1, none⟩ = some (.int .i64 to) ∧ w'.cell? ⟨w.heap.size + 1, 0, none⟩ = some (.int .i64 net) ∧ w'.cell? ⟨w.heap.size + 1, 1, none⟩ = some (.int .i64 n) ∧ w.heap.size + 1 < w'.heap.size ∧ Below w.heap.size w w') (first | assumption | exact box2_keep0 _ _ _ _ _ _ _ | exact box2_drew (by assumption) | exact box2_keep (by assumption) (by assumption)) (first | (go_at_call 109; refine (last_any _ _ _ h0 h1 h2 h3).mono ?_; rintro e w2 ⟨rfl, hb⟩))
  go_wp2_with fail
  go_ret
  exact ⟨rfl, box2_below (by assumption)⟩

set_option maxHeartbeats 1000000 in
theorem part_all (fr to net n : Int) (w : World) (h0 : 0 ≤ n) (h1 : n ≤ 16) (h2 : 0 ≤ net) (h3 : net ≤ 65535) (c1 : decide (net + psz n - 1 < fr) = false) (c2 : decide (to < net) = false) (c3 : decide (fr ≤ net) = true) (c4 : decide (net + psz n - 1 ≤ to) = true) :
    Calls Try.prog 116 #[.agg #[.int .i64 fr, .int .i64 to], .agg #[.int .i64 net, .int .i64 n]] w fun e w' => e = .returned (.int .i64 2) ∧ Below w.heap.size w w' := by
  go_enter Try.func116, Try.ntmps116
  go_wp2_with fail
  go_region_held3 (fun w' => w'.cell? ⟨w.heap.size, 0, none⟩ = some (.int .i64 fr) ∧ w'.cell? ⟨w.heap.size, 1, none⟩ = some (.int .i64 to) ∧ w'.cell? ⟨w.heap.size + 1, 0, none⟩ = some (.int .i64 net) ∧ w'.cell? ⟨w.heap.size + 1, 1, none⟩ = some (.int .i64 n) ∧ w.heap.size + 1 < w'.heap.size ∧ Below w.heap.size w w') (first | assumption | exact box2_keep0 _ _ _ _ _ _ _ | exact box2_drew (by assumption) | exact box2_keep (by assumption) (by assumption)) (first | (go_at_call 109; refine (last_any _ _ _ h0 h1 h2 h3).mono ?_; rintro e w2 ⟨rfl, hb⟩))
  go_wp2_with fail
  go_region_held3 (fun w' => w'.cell? ⟨w.heap.size, 0, none⟩ = some (.int .i64 fr) ∧ w'.cell? ⟨w.heap.size, 1, none⟩ = some (.int .i64 to) ∧ w'.cell? ⟨w.heap.size + 1, 0, none⟩ = some (.int .i64 net) ∧ w'.cell? ⟨w.heap.size + 1, 1, none⟩ = some (.int .i64 n) ∧ w.heap.size + 1 < w'.heap.size ∧ Below w.heap.size w w') (first | assumption | exact box2_keep0 _ _ _ _ _ _ _ | exact box2_drew (by assumption) | exact box2_keep (by assumption) (by assumption)) (first | (go_at_call 109; refine (last_any _ _ _ h0 h1 h2 h3).mono ?_; rintro e w2 ⟨rfl, hb⟩))
  go_wp2_with fail
  go_ret
  exact ⟨rfl, box2_below (by assumption)⟩

set_option maxHeartbeats 1000000 in
theorem part_s1 (fr to net n : Int) (w : World) (h0 : 0 ≤ n) (h1 : n ≤ 16) (h2 : 0 ≤ net) (h3 : net ≤ 65535) (c1 : decide (net + psz n - 1 < fr) = false) (c2 : decide (to < net) = false) (c3 : decide (fr ≤ net) = true) (c4 : decide (net + psz n - 1 ≤ to) = false) :
    Calls Try.prog 116 #[.agg #[.int .i64 fr, .int .i64 to], .agg #[.int .i64 net, .int .i64 n]] w fun e w' => e = .returned (.int .i64 1) ∧ Below w.heap.size w w' := by
  go_enter Try.func116, Try.ntmps116
  go_wp2_with fail
  go_region_held3 (fun w' => w'.cell? ⟨w.heap.size, 0, none⟩ = some (.int .i64 fr) ∧ w'.cell? ⟨w.heap.size, 1, none⟩ = some (.int .i64 to) ∧ w'.cell? ⟨w.heap.size + 1, 0, none⟩ = some (.int .i64 net) ∧ w'.cell? ⟨w.heap.size + 1, 1, none⟩ = some (.int .i64 n) ∧ w.heap.size + 1 < w'.heap.size ∧ Below w.heap.size w w') (first | assumption | exact box2_keep0 _ _ _ _ _ _ _ | exact box2_drew (by assumption) | exact box2_keep (by assumption) (by assumption)) (first | (go_at_call 109; refine (last_any _ _ _ h0 h1 h2 h3).mono ?_; rintro e w2 ⟨rfl, hb⟩))
  go_wp2_with fail
  go_region_held3 (fun w' => w'.cell? ⟨w.heap.size, 0, none⟩ = some (.int .i64 fr) ∧ w'.cell? ⟨w.heap.size, 1, none⟩ = some (.int .i64 to) ∧ w'.cell? ⟨w.heap.size + 1, 0, none⟩ = some (.int .i64 net) ∧ w'.cell? ⟨w.heap.size + 1, 1, none⟩ = some (.int .i64 n) ∧ w.heap.size + 1 < w'.heap.size ∧ Below w.heap.size w w') (first | assumption | exact box2_keep0 _ _ _ _ _ _ _ | exact box2_drew (by assumption) | exact box2_keep (by assumption) (by assumption)) (first | (go_at_call 109; refine (last_any _ _ _ h0 h1 h2 h3).mono ?_; rintro e w2 ⟨rfl, hb⟩))
  go_wp2_with fail
  go_ret
  exact ⟨rfl, box2_below (by assumption)⟩

set_option maxHeartbeats 1000000 in
theorem part_s2 (fr to net n : Int) (w : World) (h0 : 0 ≤ n) (h1 : n ≤ 16) (h2 : 0 ≤ net) (h3 : net ≤ 65535) (c1 : decide (net + psz n - 1 < fr) = false) (c2 : decide (to < net) = false) (c3 : decide (fr ≤ net) = false) :
    Calls Try.prog 116 #[.agg #[.int .i64 fr, .int .i64 to], .agg #[.int .i64 net, .int .i64 n]] w fun e w' => e = .returned (.int .i64 1) ∧ Below w.heap.size w w' := by
  go_enter Try.func116, Try.ntmps116
  go_wp2_with fail
  go_region_held3 (fun w' => w'.cell? ⟨w.heap.size, 0, none⟩ = some (.int .i64 fr) ∧ w'.cell? ⟨w.heap.size, 1, none⟩ = some (.int .i64 to) ∧ w'.cell? ⟨w.heap.size + 1, 0, none⟩ = some (.int .i64 net) ∧ w'.cell? ⟨w.heap.size + 1, 1, none⟩ = some (.int .i64 n) ∧ w.heap.size + 1 < w'.heap.size ∧ Below w.heap.size w w') (first | assumption | exact box2_keep0 _ _ _ _ _ _ _ | exact box2_drew (by assumption) | exact box2_keep (by assumption) (by assumption)) (first | (go_at_call 109; refine (last_any _ _ _ h0 h1 h2 h3).mono ?_; rintro e w2 ⟨rfl, hb⟩))
  go_wp2_with fail
  refine wp_region_held_drew (S := (fun w' => w'.cell? ⟨w.heap.size, 0, none⟩ = some (.int .i64 fr) ∧ w'.cell? ⟨w.heap.size, 1, none⟩ = some (.int .i64 to) ∧ w'.cell? ⟨w.heap.size + 1, 0, none⟩ = some (.int .i64 net) ∧ w'.cell? ⟨w.heap.size + 1, 1, none⟩ = some (.int .i64 n) ∧ w.heap.size + 1 < w'.heap.size ∧ Below w.heap.size w w')) (by kernel_rfl) ?_ (fun hHeld => ?_)
  · first | assumption | exact box2_keep0 _ _ _ _ _ _ _ | exact box2_drew (by assumption) | exact box2_keep (by assumption) (by assumption)
  refine step_read 0 19 rfl rfl (by kernel_rfl) (by kernel_rfl) (by kernel_rfl) (fun _ _ _ h => h) (by rfl) (v := ?_) (fun w hSw => ?_) (by assumption) ?_; rotate_left; (focus ((try dsimp only at hSw); go_simp; first | done | exact rfl)); simp only [List.set]
  refine step_read 1 20 rfl rfl (by kernel_rfl) (by kernel_rfl) (by kernel_rfl) (fun _ _ _ h => h) (by rfl) (v := ?_) (fun w hSw => ?_) (by assumption) ?_; rotate_left; (focus ((try dsimp only at hSw); go_simp; first | done | exact rfl)); simp only [List.set]
  refine step_read 2 21 rfl rfl (by kernel_rfl) (by kernel_rfl) (by kernel_rfl) (fun _ _ _ h => h) (by rfl) (v := ?_) (fun w hSw => ?_) (by assumption) ?_; rotate_left; (focus ((try dsimp only at hSw); go_simp; first | done | exact rfl)); simp only [List.set]
  refine step_read 3 22 rfl rfl (by kernel_rfl) (by kernel_rfl) (by kernel_rfl) (fun _ _ _ h => h) (by rfl) (v := ?_) (fun w hSw => ?_) (by assumption) ?_; rotate_left; (focus ((try dsimp only at hSw); go_simp; first | done | exact rfl)); simp only [List.set]
  refine step_read 4 23 rfl rfl (by kernel_rfl) (by kernel_rfl) (by kernel_rfl) (fun _ _ _ h => h) (by rfl) (v := ?_) (fun w hSw => ?_) (by assumption) ?_; rotate_left; (focus ((try dsimp only at hSw); go_simp; first | done | exact rfl)); simp only [List.set]
  refine step_read 5 24 rfl rfl (by kernel_rfl) (by kernel_rfl) (by kernel_rfl) (fun _ _ _ h => h) (by rfl) (v := ?_) (fun w hSw => ?_) (by assumption) ?_; rotate_left; (focus ((try dsimp only at hSw); go_simp; first | done | exact rfl)); simp only [List.set]
  refine step_skip 6 25 rfl rfl (by kernel_rfl) (by kernel_rfl) (by kernel_rfl) (fun _ _ _ h => h) (by rfl) (by assumption) ?_; simp only [List.set]
  refine step_skip 7 26 rfl rfl (by kernel_rfl) (by kernel_rfl) (by kernel_rfl) (fun _ _ _ h => h) (by rfl) (by assumption) ?_; simp only [List.set]
  refine step_skip 8 27 rfl rfl (by kernel_rfl) (by kernel_rfl) (by kernel_rfl) (fun _ _ _ h => h) (by rfl) (by assumption) ?_; simp only [List.set]
  refine step_skip 9 28 rfl rfl (by kernel_rfl) (by kernel_rfl) (by kernel_rfl) (fun _ _ _ h => h) (by rfl) (by assumption) ?_; simp only [List.set]
  refine step_skip 10 29 rfl rfl (by kernel_rfl) (by kernel_rfl) (by kernel_rfl) (fun _ _ _ h => h) (by rfl) (by assumption) ?_; simp only [List.set]
  refine step_read 11 30 rfl rfl (by kernel_rfl) (by kernel_rfl) (by kernel_rfl) (fun _ _ _ h => h) (by rfl) (v := ?_) (fun w hSw => ?_) (by assumption) ?_; rotate_left; (focus ((try dsimp only at hSw); go_simp; first | done | exact rfl)); simp only [List.set]
  refine step_read 12 18 rfl rfl (by kernel_rfl) (by kernel_rfl) (by kernel_rfl) (fun _ _ _ h => h) (by rfl) (v := ?_) (fun w hSw => ?_) (by assumption) ?_; rotate_left; (focus ((try dsimp only at hSw); go_simp; first | done | exact rfl)); simp only [List.set]
  refine wpAnyH_done (by kernel_rfl) ?_ _
  go_wp2_with fail
  go_ret
  exact ⟨rfl, box2_below (by assumption)⟩

/-- How much of a block lies in a range. -/
def partI (fr to net n : Int) : Int := if net + psz n - 1 < fr ∨ to < net then 0 else if fr ≤ net ∧ net + psz n - 1 ≤ to then 2 else 1
theorem part_any (fr to net n : Int) (w : World) (h0 : 0 ≤ n) (h1 : n ≤ 16) (h2 : 0 ≤ net) (h3 : net ≤ 65535) :
    Calls Try.prog 116 #[.agg #[.int .i64 fr, .int .i64 to], .agg #[.int .i64 net, .int .i64 n]] w fun e w' => e = .returned (.int .i64 (partI fr to net n)) ∧ Below w.heap.size w w' := by
  unfold partI
  by_cases c1 : net + psz n - 1 < fr
  · rw [if_pos (.inl c1)]; exact part_n1 fr to net n w h0 h1 h2 h3 (by simpa using c1)
  · by_cases c2 : to < net
    · rw [if_pos (.inr c2)]; exact part_n2 fr to net n w h0 h1 h2 h3 (by simpa using c1) (by simpa using c2)
    · rw [if_neg (by omega)]
      by_cases c3 : fr ≤ net
      · by_cases c4 : net + psz n - 1 ≤ to
        · rw [if_pos ⟨c3, c4⟩]; exact part_all fr to net n w h0 h1 h2 h3 (by simpa using c1) (by simpa using c2) (by simpa using c3) (by simpa using c4)
        · rw [if_neg (by omega)]; exact part_s1 fr to net n w h0 h1 h2 h3 (by simpa using c1) (by simpa using c2) (by simpa using c3) (by simpa using c4)
      · rw [if_neg (by omega)]; exact part_s2 fr to net n w h0 h1 h2 h3 (by simpa using c1) (by simpa using c2) (by simpa using c3)


end Go.Proofs.Ytpfeekdmeloakaa.Old
