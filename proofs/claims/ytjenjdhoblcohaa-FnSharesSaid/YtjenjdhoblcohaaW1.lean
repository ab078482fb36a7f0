/- The small functions of chapter 3 as contracts: nodes, edges, their order. -/
import Derived.Test.YtjenjdhoblcohaaMg
import Derived.Test.YtjenjdhoblcohaaGg
import Derived.Test.YtjenjdhoblcohaaGk
import Derived.StillTailTactics
namespace Go.Proofs.Ytjenjdhoblcohaa
open Go.RowKit


set_option maxHeartbeats 1000000 in
theorem in_any (x a b : Int) (w : World) : Calls Try.prog 59 #[.int .i64 x, .int .i64 a, .int .i64 b] w fun e w' => e = .returned (.bool (inB x a b)) ∧ w = w' := by
  unfold inB
  by_cases h1 : a ≤ x
  · rw [decide_eq_true h1, Bool.true_and]
    go_enter Try.func59, Try.ntmps59
    go_wp2
    go_ret
    exact ⟨rfl, rfl⟩
  · rw [decide_eq_false h1, Bool.false_and]
    have h2 : decide (a ≤ x) = false := decide_eq_false h1
    go_enter Try.func59, Try.ntmps59
    go_wp2
    go_ret
    exact ⟨rfl, rfl⟩

set_option maxHeartbeats 1000000 in
theorem node_any (N : Int) (a : Option Addr) (n c : Nat) (x : Int) (w : World) (h1 : 1 ≤ N) (h2 : N ≤ 10) :
    Calls Try.prog 48 #[.agg #[.int .i64 N, .slice a n c], .int .i64 x] w fun e w' => e = .returned (.bool (ndB N x)) ∧ Below w.heap.size w w' := by
  go_enter Try.func48, Try.ntmps48
  go_wp2_with fail
  go_at_call 59
  refine (in_any x 0 (N - 1) _).mono ?_
  rintro e w1 ⟨rfl, rfl⟩
  go_wp2
  go_ret
  exact ⟨rfl, by go_grown⟩

set_option maxHeartbeats 1000000 in
theorem hasNode_any (N : Int) (a : Option Addr) (n c : Nat) (x : Int) (w : World) :
    Calls Try.prog 52 #[.agg #[.int .i64 N, .slice a n c], .int .i64 x] w fun e w' => e = .returned (.bool (ndB N x)) ∧ Below w.heap.size w w' := by
  by_cases h1 : 0 ≤ x
  · have e : ndB N x = decide (x < N) := by unfold ndB inB; rw [decide_eq_true h1, Bool.true_and]; exact decide_eq_decide.2 (by omega)
    rw [e]
    go_enter Try.func52, Try.ntmps52
    go_wp2
    go_ret
    exact ⟨rfl, by go_grown⟩
  · have e : ndB N x = false := by unfold ndB; exact inB_false (by omega)
    have h2 : decide (0 ≤ x) = false := decide_eq_false h1
    rw [e]
    go_enter Try.func52, Try.ntmps52
    go_wp2
    go_ret
    exact ⟨rfl, by go_grown⟩
def cmpI (a b : Int) : Int := if a < b then -1 else if b < a then 1 else 0
def orI (x y : Int) : Int := if x = 0 then y else x
def cmpP (a b c d : Int) : Int := orI (cmpI a c) (cmpI b d)
theorem cmpI_in (a b : Int) : -1 ≤ cmpI a b ∧ cmpI a b ≤ 1 := by unfold cmpI; split <;> (try split) <;> omega
theorem cmpP_ah (a b c d : Int) : decide (0 ≤ cmpP a b c d) = !eahB a b c d := by
  unfold cmpP orI cmpI eahB
  by_cases h1 : a < c
  · simp [h1]
  · by_cases h2 : c < a
    · have : ¬ a = c := by omega
      simp [h1, h2, this]
    · have : a = c := by omega
      subst this
      by_cases h3 : b < d
      · simp [h3]
      · by_cases h4 : d < b <;> simp [h3, h4]

set_option maxHeartbeats 1000000 in
theorem cmp_any (a b : Int) (w : World) : Calls Try.prog 65 #[.int .i64 a, .int .i64 b] w fun e w' => e = .returned (.int .i64 (cmpI a b)) ∧ w = w' := by
  unfold cmpI
  by_cases h1 : a < b
  · rw [if_pos h1]
    go_enter Try.func65, Try.ntmps65
    go_wp2
    go_ret
    exact ⟨rfl, rfl⟩
  · rw [if_neg h1]
    by_cases h2 : b < a
    · rw [if_pos h2]
      go_enter Try.func65, Try.ntmps65
      go_wp2
      go_ret
      exact ⟨rfl, rfl⟩
    · rw [if_neg h2]
      go_enter Try.func65, Try.ntmps65
      go_wp2
      go_ret
      exact ⟨rfl, rfl⟩

set_option maxHeartbeats 1000000 in
theorem or_any (g : Nat) (x y : Int) (w : World) (h0 : w.cell? ⟨g, 0, none⟩ = some (.int .i64 x)) (h1 : w.cell? ⟨g, 1, none⟩ = some (.int .i64 y)) :
    Calls Try.prog 108 #[.slice (some ⟨g, 0, none⟩) 2 2] w fun e w' => e = .returned (.int .i64 (orI x y)) ∧ w = w' := by
  unfold orI
  by_cases hx : x = 0
  · subst hx
    rw [if_pos rfl]
    go_enter Try.func108, Try.ntmps108
    go_wp2
    go_loop [5, 8] (fun _ i => ∃ k : Nat, k ≤ 2 ∧ i = .int .i64 (k : Int) ∧ (k = 2 → y = 0)) (fun _ i => 2 - (intOf i).toNat)
    case atStart => exact ⟨0, by omega, rfl, by omega⟩
    case round =>
      obtain ⟨k, hk, rfl, hy⟩ := hrel
      have hk3 : k = 0 ∨ k = 1 ∨ k = 2 := by omega
      rcases hk3 with rfl | rfl | rfl
      · clear hy
        go_wp2
        go_round
        case rel => exact ⟨1, by omega, by go_num, by omega⟩
        case measure => simp [intOf]
      · clear hy
        by_cases hy : y = 0
        · subst hy
          go_wp2
          go_round
          case rel => exact ⟨2, by omega, by go_num, by simp⟩
          case measure => simp [intOf]
        · have hz : (y != 0) = true := by simp [hy]
          go_wp2
          go_ret
          exact ⟨rfl, rfl⟩
      · obtain rfl := hy rfl
        go_wp2
        go_ret
        exact ⟨rfl, rfl⟩
  · rw [if_neg hx]
    have hz : (x != 0) = true := by simp [hx]
    go_enter Try.func108, Try.ntmps108
    go_wp2
    go_loop [5, 8] (fun _ i => i = .int .i64 0) (fun _ i => 2 - (intOf i).toNat)
    case atStart => exact rfl
    case round =>
      subst hrel
      go_wp2
      go_ret
      exact ⟨rfl, rfl⟩


theorem box3p_keep0 (w : World) (c0 c1 c2 d0 d1 d2 : Value) (T T' : TypeId) : ((w.alloc (.cells #[c0, c1, c2] T)).alloc (.cells #[d0, d1, d2] T')).drew.cell? ⟨w.heap.size, 0, none⟩ = some c0 ∧ ((w.alloc (.cells #[c0, c1, c2] T)).alloc (.cells #[d0, d1, d2] T')).drew.cell? ⟨w.heap.size, 1, none⟩ = some c1 ∧ ((w.alloc (.cells #[c0, c1, c2] T)).alloc (.cells #[d0, d1, d2] T')).drew.cell? ⟨w.heap.size, 2, none⟩ = some c2 ∧ ((w.alloc (.cells #[c0, c1, c2] T)).alloc (.cells #[d0, d1, d2] T')).drew.cell? ⟨w.heap.size + 1, 0, none⟩ = some d0 ∧ ((w.alloc (.cells #[c0, c1, c2] T)).alloc (.cells #[d0, d1, d2] T')).drew.cell? ⟨w.heap.size + 1, 1, none⟩ = some d1 ∧ ((w.alloc (.cells #[c0, c1, c2] T)).alloc (.cells #[d0, d1, d2] T')).drew.cell? ⟨w.heap.size + 1, 2, none⟩ = some d2 ∧ w.heap.size + 1 < ((w.alloc (.cells #[c0, c1, c2] T)).alloc (.cells #[d0, d1, d2] T')).drew.heap.size ∧ Below w.heap.size w ((w.alloc (.cells #[c0, c1, c2] T)).alloc (.cells #[d0, d1, d2] T')).drew :=
  ⟨by simp [go_sem], by simp [go_sem], by simp [go_sem], by simp [go_sem], by simp [go_sem], by simp [go_sem], by simp [go_sem], (((Below.refl _ _).alloc (Nat.le_refl _) _).alloc (by simp) _).drew⟩
theorem box3p_box {w w1 : World} {c0 c1 c2 d0 d1 d2 : Value} {o : Obj} (h : w1.cell? ⟨w.heap.size, 0, none⟩ = some c0 ∧ w1.cell? ⟨w.heap.size, 1, none⟩ = some c1 ∧ w1.cell? ⟨w.heap.size, 2, none⟩ = some c2 ∧ w1.cell? ⟨w.heap.size + 1, 0, none⟩ = some d0 ∧ w1.cell? ⟨w.heap.size + 1, 1, none⟩ = some d1 ∧ w1.cell? ⟨w.heap.size + 1, 2, none⟩ = some d2 ∧ w.heap.size + 1 < w1.heap.size ∧ Below w.heap.size w w1) : (w1.alloc o).cell? ⟨w.heap.size, 0, none⟩ = some c0 ∧ (w1.alloc o).cell? ⟨w.heap.size, 1, none⟩ = some c1 ∧ (w1.alloc o).cell? ⟨w.heap.size, 2, none⟩ = some c2 ∧ (w1.alloc o).cell? ⟨w.heap.size + 1, 0, none⟩ = some d0 ∧ (w1.alloc o).cell? ⟨w.heap.size + 1, 1, none⟩ = some d1 ∧ (w1.alloc o).cell? ⟨w.heap.size + 1, 2, none⟩ = some d2 ∧ w.heap.size + 1 < (w1.alloc o).heap.size ∧ Below w.heap.size w (w1.alloc o) := by
  obtain ⟨h1, h2, h3, h4, h5, h6, h7, h8⟩ := h
  exact ⟨by rw [old_box (by omega)]; exact h1, by rw [old_box (by omega)]; exact h2, by rw [old_box (by omega)]; exact h3, by rw [old_box (by omega)]; exact h4, by rw [old_box (by omega)]; exact h5, by rw [old_box (by omega)]; exact h6, by simp; omega, h8.alloc (by omega) o⟩
theorem box3p_drew {w w1 : World} {c0 c1 c2 d0 d1 d2 : Value} (h : w1.cell? ⟨w.heap.size, 0, none⟩ = some c0 ∧ w1.cell? ⟨w.heap.size, 1, none⟩ = some c1 ∧ w1.cell? ⟨w.heap.size, 2, none⟩ = some c2 ∧ w1.cell? ⟨w.heap.size + 1, 0, none⟩ = some d0 ∧ w1.cell? ⟨w.heap.size + 1, 1, none⟩ = some d1 ∧ w1.cell? ⟨w.heap.size + 1, 2, none⟩ = some d2 ∧ w.heap.size + 1 < w1.heap.size ∧ Below w.heap.size w w1) : w1.drew.cell? ⟨w.heap.size, 0, none⟩ = some c0 ∧ w1.drew.cell? ⟨w.heap.size, 1, none⟩ = some c1 ∧ w1.drew.cell? ⟨w.heap.size, 2, none⟩ = some c2 ∧ w1.drew.cell? ⟨w.heap.size + 1, 0, none⟩ = some d0 ∧ w1.drew.cell? ⟨w.heap.size + 1, 1, none⟩ = some d1 ∧ w1.drew.cell? ⟨w.heap.size + 1, 2, none⟩ = some d2 ∧ w.heap.size + 1 < w1.drew.heap.size ∧ Below w.heap.size w w1.drew := by
  obtain ⟨h1, h2, h3, h4, h5, h6, h7, h8⟩ := h
  exact ⟨h1, h2, h3, h4, h5, h6, h7, h8.drew⟩
theorem box3p_below {w w1 : World} {c0 c1 c2 d0 d1 d2 : Value} (h : w1.cell? ⟨w.heap.size, 0, none⟩ = some c0 ∧ w1.cell? ⟨w.heap.size, 1, none⟩ = some c1 ∧ w1.cell? ⟨w.heap.size, 2, none⟩ = some c2 ∧ w1.cell? ⟨w.heap.size + 1, 0, none⟩ = some d0 ∧ w1.cell? ⟨w.heap.size + 1, 1, none⟩ = some d1 ∧ w1.cell? ⟨w.heap.size + 1, 2, none⟩ = some d2 ∧ w.heap.size + 1 < w1.heap.size ∧ Below w.heap.size w w1) : Below w.heap.size w w1 := h.2.2.2.2.2.2.2

set_option maxHeartbeats 2000000 in
theorem compare_any (a b x c d y : Int) (w : World) :
    Calls Try.prog 86 #[.agg #[.int .i64 a, .int .i64 b, .int .i64 x], .agg #[.int .i64 c, .int .i64 d, .int .i64 y]] w fun e w' => e = .returned (.int .i64 (cmpP a b c d)) ∧ Below w.heap.size w w' := by
  unfold cmpP
  go_enter Try.func86, Try.ntmps86
  go_wp2_with fail
  go_region_held3 (fun w' => w'.cell? ⟨w.heap.size, 0, none⟩ = some (.int .i64 a) ∧ w'.cell? ⟨w.heap.size, 1, none⟩ = some (.int .i64 b) ∧ w'.cell? ⟨w.heap.size, 2, none⟩ = some (.int .i64 x) ∧ w'.cell? ⟨w.heap.size + 1, 0, none⟩ = some (.int .i64 c) ∧ w'.cell? ⟨w.heap.size + 1, 1, none⟩ = some (.int .i64 d) ∧ w'.cell? ⟨w.heap.size + 1, 2, none⟩ = some (.int .i64 y) ∧ w.heap.size + 1 < w'.heap.size ∧ Below w.heap.size w w') (first | assumption | exact box3p_keep0 _ _ _ _ _ _ _ _ _ | exact box3p_drew (by assumption) | exact box3p_box (by assumption))
    (first | (go_at_call 65; refine (cmp_any _ _ _).mono ?_; rintro e w2 ⟨rfl, rfl⟩) | (go_at_call 108; refine (or_any _ (cmpI a c) (cmpI b d) _ (by simp [go_sem]) (by simp [go_sem])).mono ?_; rintro e w2 ⟨rfl, rfl⟩))
  all_goals
    go_wp2_with fail
    go_ret
    exact ⟨rfl, box3p_below (by assumption)⟩

set_option maxHeartbeats 400000 in
theorem cost_any (x : Int) (w : World) :
    Calls Try.prog 107 #[.int .i64 x] w fun e w' => e = .returned (.bool (inB x 1 1000)) ∧ w = w' := by
  by_cases h1 : 1 ≤ x
  · by_cases h2 : x ≤ 1000
    · rw [inB_true h1 h2]
      have h3 : x < 1000 + 1 := by omega
      simp only [Int.reduceAdd] at h3
      go_enter Try.func107, Try.ntmps107
      go_wp2
      go_ret
      exact ⟨rfl, rfl⟩
    · rw [inB_false (by omega)]
      have h3 : ¬ x < 1000 + 1 := by omega
      simp only [Int.reduceAdd] at h3
      go_enter Try.func107, Try.ntmps107
      go_wp2
      go_ret
      exact ⟨rfl, rfl⟩
  · rw [inB_false (by omega)]
    go_enter Try.func107, Try.ntmps107
    go_wp2
    go_ret
    exact ⟨rfl, rfl⟩

set_option maxHeartbeats 2000000 in
theorem edgeOk_any (N : Int) (ad : Option Addr) (n cp : Nat) (a b c : Int) (w : World) :
    Calls Try.prog 85 #[.agg #[.int .i64 N, .slice ad n cp], .agg #[.int .i64 a, .int .i64 b, .int .i64 c]] w fun e w' => e = .returned (.bool (eokB N a b c)) ∧ Below w.heap.size w w' := by
  unfold eokB
  by_cases h1 : ndB N a = true
  · by_cases h2 : ndB N b = true
    · by_cases h3 : a = b
      · rw [h1, h2, show (a == b) = true by simp [h3]]
        show Calls _ _ _ _ fun e w' => e = .returned (.bool false) ∧ _
        subst h3
        clear h2
        have h2 := h1
        go_enter Try.func85, Try.ntmps85
        go_wp2_with fail
        go_at_call 52
        refine (hasNode_any N ad n cp a _).mono ?_
        rw [h1]
        rintro e v1 ⟨rfl, hb1⟩
        have sz1 : w.heap.size + 2 ≤ v1.heap.size := by have hh := hb1.size; simp at hh; omega
        have st1 : Below w.heap.size w v1 := Below.trans (by go_grown) (hb1.mono (by simp; omega))
        have c1_0 : v1.cell? ⟨w.heap.size, 0, none⟩ = some (.int .i64 N) := by rw [(bcell hb1).1 _ _ (by simp; omega), old_box (by simp)]; simp
        have c1_1 : v1.cell? ⟨w.heap.size, 1, none⟩ = some (.slice ad n cp) := by rw [(bcell hb1).1 _ _ (by simp; omega), old_box (by simp)]; simp
        have c1_2 : v1.cell? ⟨w.heap.size + 1, 0, none⟩ = some (.int .i64 a) := by rw [(bcell hb1).1 _ _ (by simp)]; simp
        have c1_3 : v1.cell? ⟨w.heap.size + 1, 1, none⟩ = some (.int .i64 a) := by rw [(bcell hb1).1 _ _ (by simp)]; simp
        have c1_4 : v1.cell? ⟨w.heap.size + 1, 2, none⟩ = some (.int .i64 c) := by rw [(bcell hb1).1 _ _ (by simp)]; simp
        have B1 : Hid (Below w.heap.size w v1) := st1
        have d1_0 : w.heap.size < v1.heap.size := by omega
        have e1_0 : w.heap.size ≠ v1.heap.size := by omega
        have d1_1 : w.heap.size + 1 < v1.heap.size := by omega
        have e1_1 : w.heap.size + 1 ≠ v1.heap.size := by omega
        clear st1 hb1
        go_wp2_with fail
        go_at_call 52
        refine (hasNode_any N ad n cp a _).mono ?_
        rw [h2]
        rintro e v2 ⟨rfl, hb2⟩
        have sz2 : v1.heap.size ≤ v2.heap.size := hb2.size
        have st2 : Below v1.heap.size v1 v2 := hb2
        have c2_0 : v2.cell? ⟨w.heap.size, 0, none⟩ = some (.int .i64 N) := by rw [(bcell st2).1 _ _ (by omega)]; exact c1_0
        have c2_1 : v2.cell? ⟨w.heap.size, 1, none⟩ = some (.slice ad n cp) := by rw [(bcell st2).1 _ _ (by omega)]; exact c1_1
        have c2_2 : v2.cell? ⟨w.heap.size + 1, 0, none⟩ = some (.int .i64 a) := by rw [(bcell st2).1 _ _ (by omega)]; exact c1_2
        have c2_3 : v2.cell? ⟨w.heap.size + 1, 1, none⟩ = some (.int .i64 a) := by rw [(bcell st2).1 _ _ (by omega)]; exact c1_3
        have c2_4 : v2.cell? ⟨w.heap.size + 1, 2, none⟩ = some (.int .i64 c) := by rw [(bcell st2).1 _ _ (by omega)]; exact c1_4
        have B2 : Hid (Below w.heap.size w v2) := B1.out.trans (st2.mono (by omega))
        have d2_0 : w.heap.size < v2.heap.size := by omega
        have e2_0 : w.heap.size ≠ v2.heap.size := by omega
        have d2_1 : w.heap.size + 1 < v2.heap.size := by omega
        have e2_1 : w.heap.size + 1 ≠ v2.heap.size := by omega
        clear d1_0 e1_0 d1_1 e1_1 c1_0 c1_1 c1_2 c1_3 c1_4 B1 st2 hb2
        go_wp2_with fail
        go_ret
        exact ⟨rfl, B2.out⟩
      · have h4 : (a == b) = false := by simp [h3]
        have h5 : (a != b) = true := by simp [h3]
        rw [h1, h2, h4]
        simp only [Bool.not_false, Bool.true_and]
        clear h3
        go_enter Try.func85, Try.ntmps85
        go_wp2_with fail
        go_at_call 52
        refine (hasNode_any N ad n cp a _).mono ?_
        rw [h1]
        rintro e v1 ⟨rfl, hb1⟩
        have sz1 : w.heap.size + 2 ≤ v1.heap.size := by have hh := hb1.size; simp at hh; omega
        have st1 : Below w.heap.size w v1 := Below.trans (by go_grown) (hb1.mono (by simp; omega))
        have c1_0 : v1.cell? ⟨w.heap.size, 0, none⟩ = some (.int .i64 N) := by rw [(bcell hb1).1 _ _ (by simp; omega), old_box (by simp)]; simp
        have c1_1 : v1.cell? ⟨w.heap.size, 1, none⟩ = some (.slice ad n cp) := by rw [(bcell hb1).1 _ _ (by simp; omega), old_box (by simp)]; simp
        have c1_2 : v1.cell? ⟨w.heap.size + 1, 0, none⟩ = some (.int .i64 a) := by rw [(bcell hb1).1 _ _ (by simp)]; simp
        have c1_3 : v1.cell? ⟨w.heap.size + 1, 1, none⟩ = some (.int .i64 b) := by rw [(bcell hb1).1 _ _ (by simp)]; simp
        have c1_4 : v1.cell? ⟨w.heap.size + 1, 2, none⟩ = some (.int .i64 c) := by rw [(bcell hb1).1 _ _ (by simp)]; simp
        have B1 : Hid (Below w.heap.size w v1) := st1
        have d1_0 : w.heap.size < v1.heap.size := by omega
        have e1_0 : w.heap.size ≠ v1.heap.size := by omega
        have d1_1 : w.heap.size + 1 < v1.heap.size := by omega
        have e1_1 : w.heap.size + 1 ≠ v1.heap.size := by omega
        clear st1 hb1
        go_wp2_with fail
        go_at_call 52
        refine (hasNode_any N ad n cp b _).mono ?_
        rw [h2]
        rintro e v2 ⟨rfl, hb2⟩
        have sz2 : v1.heap.size ≤ v2.heap.size := hb2.size
        have st2 : Below v1.heap.size v1 v2 := hb2
        have c2_0 : v2.cell? ⟨w.heap.size, 0, none⟩ = some (.int .i64 N) := by rw [(bcell st2).1 _ _ (by omega)]; exact c1_0
        have c2_1 : v2.cell? ⟨w.heap.size, 1, none⟩ = some (.slice ad n cp) := by rw [(bcell st2).1 _ _ (by omega)]; exact c1_1
        have c2_2 : v2.cell? ⟨w.heap.size + 1, 0, none⟩ = some (.int .i64 a) := by rw [(bcell st2).1 _ _ (by omega)]; exact c1_2
        have c2_3 : v2.cell? ⟨w.heap.size + 1, 1, none⟩ = some (.int .i64 b) := by rw [(bcell st2).1 _ _ (by omega)]; exact c1_3
        have c2_4 : v2.cell? ⟨w.heap.size + 1, 2, none⟩ = some (.int .i64 c) := by rw [(bcell st2).1 _ _ (by omega)]; exact c1_4
        have B2 : Hid (Below w.heap.size w v2) := B1.out.trans (st2.mono (by omega))
        have d2_0 : w.heap.size < v2.heap.size := by omega
        have e2_0 : w.heap.size ≠ v2.heap.size := by omega
        have d2_1 : w.heap.size + 1 < v2.heap.size := by omega
        have e2_1 : w.heap.size + 1 ≠ v2.heap.size := by omega
        clear d1_0 e1_0 d1_1 e1_1 c1_0 c1_1 c1_2 c1_3 c1_4 B1 st2 hb2
        go_wp2_with fail
        go_at_call 107
        refine (cost_any c _).mono ?_
        rintro e w' ⟨rfl, rfl⟩
        go_wp2_with fail
        go_ret
        exact ⟨rfl, B2.out⟩
    · rw [Bool.not_eq_true] at h2
      rw [h1, h2]
      simp only [Bool.and_false, Bool.false_and]
      go_enter Try.func85, Try.ntmps85
      go_wp2_with fail
      go_at_call 52
      refine (hasNode_any N ad n cp a _).mono ?_
      rw [h1]
      rintro e v1 ⟨rfl, hb1⟩
      have sz1 : w.heap.size + 2 ≤ v1.heap.size := by have hh := hb1.size; simp at hh; omega
      have st1 : Below w.heap.size w v1 := Below.trans (by go_grown) (hb1.mono (by simp; omega))
      have c1_0 : v1.cell? ⟨w.heap.size, 0, none⟩ = some (.int .i64 N) := by rw [(bcell hb1).1 _ _ (by simp; omega), old_box (by simp)]; simp
      have c1_1 : v1.cell? ⟨w.heap.size, 1, none⟩ = some (.slice ad n cp) := by rw [(bcell hb1).1 _ _ (by simp; omega), old_box (by simp)]; simp
      have c1_2 : v1.cell? ⟨w.heap.size + 1, 0, none⟩ = some (.int .i64 a) := by rw [(bcell hb1).1 _ _ (by simp)]; simp
      have c1_3 : v1.cell? ⟨w.heap.size + 1, 1, none⟩ = some (.int .i64 b) := by rw [(bcell hb1).1 _ _ (by simp)]; simp
      have c1_4 : v1.cell? ⟨w.heap.size + 1, 2, none⟩ = some (.int .i64 c) := by rw [(bcell hb1).1 _ _ (by simp)]; simp
      have B1 : Hid (Below w.heap.size w v1) := st1
      have d1_0 : w.heap.size < v1.heap.size := by omega
      have e1_0 : w.heap.size ≠ v1.heap.size := by omega
      have d1_1 : w.heap.size + 1 < v1.heap.size := by omega
      have e1_1 : w.heap.size + 1 ≠ v1.heap.size := by omega
      clear st1 hb1
      go_wp2_with fail
      go_at_call 52
      refine (hasNode_any N ad n cp b _).mono ?_
      rw [h2]
      rintro e v2 ⟨rfl, hb2⟩
      have sz2 : v1.heap.size ≤ v2.heap.size := hb2.size
      have st2 : Below v1.heap.size v1 v2 := hb2
      have c2_0 : v2.cell? ⟨w.heap.size, 0, none⟩ = some (.int .i64 N) := by rw [(bcell st2).1 _ _ (by omega)]; exact c1_0
      have c2_1 : v2.cell? ⟨w.heap.size, 1, none⟩ = some (.slice ad n cp) := by rw [(bcell st2).1 _ _ (by omega)]; exact c1_1
      have c2_2 : v2.cell? ⟨w.heap.size + 1, 0, none⟩ = some (.int .i64 a) := by rw [(bcell st2).1 _ _ (by omega)]; exact c1_2
      have c2_3 : v2.cell? ⟨w.heap.size + 1, 1, none⟩ = some (.int .i64 b) := by rw [(bcell st2).1 _ _ (by omega)]; exact c1_3
      have c2_4 : v2.cell? ⟨w.heap.size + 1, 2, none⟩ = some (.int .i64 c) := by rw [(bcell st2).1 _ _ (by omega)]; exact c1_4
      have B2 : Hid (Below w.heap.size w v2) := B1.out.trans (st2.mono (by omega))
      have d2_0 : w.heap.size < v2.heap.size := by omega
      have e2_0 : w.heap.size ≠ v2.heap.size := by omega
      have d2_1 : w.heap.size + 1 < v2.heap.size := by omega
      have e2_1 : w.heap.size + 1 ≠ v2.heap.size := by omega
      clear d1_0 e1_0 d1_1 e1_1 c1_0 c1_1 c1_2 c1_3 c1_4 B1 st2 hb2
      go_wp2_with fail
      go_ret
      exact ⟨rfl, B2.out⟩
  · rw [Bool.not_eq_true] at h1
    rw [h1]
    simp only [Bool.false_and]
    go_enter Try.func85, Try.ntmps85
    go_wp2_with fail
    go_at_call 52
    refine (hasNode_any N ad n cp a _).mono ?_
    rw [h1]
    rintro e v1 ⟨rfl, hb1⟩
    have sz1 : w.heap.size + 2 ≤ v1.heap.size := by have hh := hb1.size; simp at hh; omega
    have st1 : Below w.heap.size w v1 := Below.trans (by go_grown) (hb1.mono (by simp; omega))
    have c1_0 : v1.cell? ⟨w.heap.size, 0, none⟩ = some (.int .i64 N) := by rw [(bcell hb1).1 _ _ (by simp; omega), old_box (by simp)]; simp
    have c1_1 : v1.cell? ⟨w.heap.size, 1, none⟩ = some (.slice ad n cp) := by rw [(bcell hb1).1 _ _ (by simp; omega), old_box (by simp)]; simp
    have c1_2 : v1.cell? ⟨w.heap.size + 1, 0, none⟩ = some (.int .i64 a) := by rw [(bcell hb1).1 _ _ (by simp)]; simp
    have c1_3 : v1.cell? ⟨w.heap.size + 1, 1, none⟩ = some (.int .i64 b) := by rw [(bcell hb1).1 _ _ (by simp)]; simp
    have c1_4 : v1.cell? ⟨w.heap.size + 1, 2, none⟩ = some (.int .i64 c) := by rw [(bcell hb1).1 _ _ (by simp)]; simp
    have B1 : Hid (Below w.heap.size w v1) := st1
    have d1_0 : w.heap.size < v1.heap.size := by omega
    have e1_0 : w.heap.size ≠ v1.heap.size := by omega
    have d1_1 : w.heap.size + 1 < v1.heap.size := by omega
    have e1_1 : w.heap.size + 1 ≠ v1.heap.size := by omega
    clear st1 hb1
    go_wp2_with fail
    go_ret
    exact ⟨rfl, B1.out⟩

end Go.Proofs.Ytjenjdhoblcohaa
