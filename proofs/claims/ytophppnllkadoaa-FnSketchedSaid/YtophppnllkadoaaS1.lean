/- The small functions of sketches and of lists of heavy hitters, as contracts. -/
import Derived.Test.YtophppnllkadoaaL0
import Derived.Test.YtophppnllkadoaaMt
import Derived.Test.YtophppnllkadoaaReg
import Derived.StillTailTactics
namespace Go.Proofs.Ytophppnllkadoaa
open Go.RowKit


theorem new_at {w : World} {b o : Nat} {cs : Array Value} {t : TypeId} (h : b = w.heap.size) : (w.alloc (.cells cs t)).cell? ⟨b, o, none⟩ = cs[o]? := by subst h; exact cell_of_row _ _ _ _ _ _ (heap_alloc_new _ _)
theorem new_frz {w : World} {b o : Nat} {cs : Array Value} {t : TypeId} (h : b = w.heap.size) : (w.alloc (.cells cs t)).frozen? ⟨b, o, none⟩ = false := by subst h; exact frozen_of_row _ _ _ _ _ (heap_alloc_new _ _)
theorem old_frz {w : World} {b o : Nat} {x : Obj} (h : b < w.heap.size) : (w.alloc x).frozen? ⟨b, o, none⟩ = w.frozen? ⟨b, o, none⟩ := ((Below.refl w.heap.size w).alloc (Nat.le_refl _) x).frozen (p := ⟨b, o, none⟩) h

set_option maxRecDepth 100000 in
set_option maxHeartbeats 4000000 in
theorem in_any (x a b : Int) (w : World) : Calls Try.prog 61 #[.int .i64 x, .int .i64 a, .int .i64 b] w fun e w' => e = .returned (.bool (inB x a b)) ∧ w = w' := by
  by_cases h0 : a ≤ x
  case neg =>
    have d0 : decide (a ≤ x) = false := decide_eq_false h0
    have e : inB x a b = false := by rw [Bool.eq_false_iff, ne_eq, inB_iff]; omega
    rw [e]
    clear e
    go_enter Try.func61, Try.ntmps61
    go_wp2
    go_ret
    exact ⟨rfl, rfl⟩
  case pos =>
    have d0 : decide (a ≤ x) = true := decide_eq_true h0
    by_cases h1 : x ≤ b
    case neg =>
      have d1 : decide (x ≤ b) = false := decide_eq_false h1
      have e : inB x a b = false := by rw [Bool.eq_false_iff, ne_eq, inB_iff]; omega
      rw [e]
      clear e
      go_enter Try.func61, Try.ntmps61
      go_wp2
      go_ret
      exact ⟨rfl, rfl⟩
    case pos =>
      have d1 : decide (x ≤ b) = true := decide_eq_true h1
      have e : inB x a b = true := by rw [inB_iff]; omega
      rw [e]
      clear e
      go_enter Try.func61, Try.ntmps61
      go_wp2
      go_ret
      exact ⟨rfl, rfl⟩

theorem key_any (k : Int) (w : World) : Calls Try.prog 60 #[.int .i64 k] w fun e w' => e = .returned (.bool (keyB k)) ∧ w = w' := by
  unfold keyB
  go_enter Try.func60, Try.ntmps60
  go_wp2_with (go_at_call 61; refine (in_any k 0 1000000000 _).mono ?_; rintro e w2 ⟨rfl, rfl⟩)
  go_ret
  exact ⟨rfl, rfl⟩

set_option maxRecDepth 100000 in
set_option maxHeartbeats 4000000 in
theorem keyOk_any (k : Int) (w : World) : Calls Try.prog 57 #[.int .i64 k] w fun e w' => e = .returned (.bool (keyB k)) ∧ w = w' := by
  by_cases h0 : 0 ≤ k
  case neg =>
    have d0 : decide (0 ≤ k) = false := decide_eq_false h0
    have e : keyB k = false := by rw [Bool.eq_false_iff, ne_eq, keyB_iff]; omega
    rw [e]
    clear e
    go_enter Try.func57, Try.ntmps57
    go_wp2
    go_ret
    exact ⟨rfl, rfl⟩
  case pos =>
    have d0 : decide (0 ≤ k) = true := decide_eq_true h0
    by_cases h1 : k ≤ 1000000000
    case neg =>
      have d1 : decide (k ≤ 1000000000) = false := decide_eq_false h1
      have e : keyB k = false := by rw [Bool.eq_false_iff, ne_eq, keyB_iff]; omega
      rw [e]
      clear e
      go_enter Try.func57, Try.ntmps57
      go_wp2
      go_ret
      exact ⟨rfl, rfl⟩
    case pos =>
      have d1 : decide (k ≤ 1000000000) = true := decide_eq_true h1
      have e : keyB k = true := by rw [keyB_iff]; omega
      rw [e]
      clear e
      go_enter Try.func57, Try.ntmps57
      go_wp2
      go_ret
      exact ⟨rfl, rfl⟩

/-- Whether an addition is valid. -/
def adB (k n : Int) : Bool := keyB k && inB n 1 1000000
theorem adB_iff {k n : Int} : adB k n = true ↔ (0 ≤ k ∧ k ≤ 1000000000) ∧ (1 ≤ n ∧ n ≤ 1000000) := by unfold adB; rw [Bool.and_eq_true, keyB_iff, inB_iff]

set_option maxRecDepth 100000 in
set_option maxHeartbeats 4000000 in
theorem addok_any (k n : Int) (w : World) : Calls Try.prog 54 #[.agg #[.int .i64 k, .int .i64 n]] w fun e w' => e = .returned (.bool (adB k n)) ∧ Below w.heap.size w w' := by
  cases hk : keyB k with
  | false =>
    have e : adB k n = false := by rw [Bool.eq_false_iff, ne_eq, adB_iff, ← keyB_iff]; intro h; rw [hk] at h; simp at h
    rw [e]
    clear e
    go_enter Try.func54, Try.ntmps54
    go_wp2_with (go_at_call 57; refine (keyOk_any k _).mono ?_; rw [hk]; rintro e w2 ⟨rfl, rfl⟩)
    go_ret
    exact ⟨rfl, by go_grown⟩
  | true =>
    by_cases h0 : 1 ≤ n
    case neg =>
      have d0 : decide (1 ≤ n) = false := decide_eq_false h0
      have e : adB k n = false := by rw [Bool.eq_false_iff, ne_eq, adB_iff, ← keyB_iff]; intro h; omega
      rw [e]
      clear e
      go_enter Try.func54, Try.ntmps54
      go_wp2_with (go_at_call 57; refine (keyOk_any k _).mono ?_; rw [hk]; rintro e w2 ⟨rfl, rfl⟩)
      go_ret
      exact ⟨rfl, by go_grown⟩
    case pos =>
      have d0 : decide (1 ≤ n) = true := decide_eq_true h0
      by_cases h1 : n ≤ 1000000
      case neg =>
        have d1 : decide (n ≤ 1000000) = false := decide_eq_false h1
        have e : adB k n = false := by rw [Bool.eq_false_iff, ne_eq, adB_iff, ← keyB_iff]; intro h; omega
        rw [e]
        clear e
        go_enter Try.func54, Try.ntmps54
        go_wp2_with (go_at_call 57; refine (keyOk_any k _).mono ?_; rw [hk]; rintro e w2 ⟨rfl, rfl⟩)
        go_ret
        exact ⟨rfl, by go_grown⟩
      case pos =>
        have d1 : decide (n ≤ 1000000) = true := decide_eq_true h1
        have e : adB k n = true := by rw [adB_iff]; have := keyB_iff.1 hk; omega
        rw [e]
        clear e
        go_enter Try.func54, Try.ntmps54
        go_wp2_with (go_at_call 57; refine (keyOk_any k _).mono ?_; rw [hk]; rintro e w2 ⟨rfl, rfl⟩)
        go_ret
        exact ⟨rfl, by go_grown⟩

set_option maxRecDepth 100000 in
set_option maxHeartbeats 4000000 in
theorem hvok_any (k c d : Int) (w : World) : Calls Try.prog 72 #[.agg #[.int .i64 k, .int .i64 c, .int .i64 d]] w fun e w' => e = .returned (.bool (hvB k c d)) ∧ Below w.heap.size w w' := by
  cases hk : keyB k with
  | false =>
    have e : hvB k c d = false := by rw [Bool.eq_false_iff, ne_eq, hvB_iff, ← keyB_iff]; intro h; rw [hk] at h; simp at h
    rw [e]
    clear e
    go_enter Try.func72, Try.ntmps72
    go_wp2_with (go_at_call 57; refine (keyOk_any k _).mono ?_; rw [hk]; rintro e w2 ⟨rfl, rfl⟩)
    go_ret
    exact ⟨rfl, by go_grown⟩
  | true =>
    by_cases h0 : 1 ≤ c
    case neg =>
      have d0 : decide (1 ≤ c) = false := decide_eq_false h0
      have e : hvB k c d = false := by rw [Bool.eq_false_iff, ne_eq, hvB_iff, ← keyB_iff]; intro h; omega
      rw [e]
      clear e
      go_enter Try.func72, Try.ntmps72
      go_wp2_with (go_at_call 57; refine (keyOk_any k _).mono ?_; rw [hk]; rintro e w2 ⟨rfl, rfl⟩)
      go_ret
      exact ⟨rfl, by go_grown⟩
    case pos =>
      have d0 : decide (1 ≤ c) = true := decide_eq_true h0
      by_cases h1 : c ≤ 1000000000000
      case neg =>
        have d1 : decide (c ≤ 1000000000000) = false := decide_eq_false h1
        have e : hvB k c d = false := by rw [Bool.eq_false_iff, ne_eq, hvB_iff, ← keyB_iff]; intro h; omega
        rw [e]
        clear e
        go_enter Try.func72, Try.ntmps72
        go_wp2_with (go_at_call 57; refine (keyOk_any k _).mono ?_; rw [hk]; rintro e w2 ⟨rfl, rfl⟩)
        go_ret
        exact ⟨rfl, by go_grown⟩
      case pos =>
        have d1 : decide (c ≤ 1000000000000) = true := decide_eq_true h1
        by_cases h2 : 0 ≤ d
        case neg =>
          have d2 : decide (0 ≤ d) = false := decide_eq_false h2
          have e : hvB k c d = false := by rw [Bool.eq_false_iff, ne_eq, hvB_iff, ← keyB_iff]; intro h; omega
          rw [e]
          clear e
          go_enter Try.func72, Try.ntmps72
          go_wp2_with (go_at_call 57; refine (keyOk_any k _).mono ?_; rw [hk]; rintro e w2 ⟨rfl, rfl⟩)
          go_ret
          exact ⟨rfl, by go_grown⟩
        case pos =>
          have d2 : decide (0 ≤ d) = true := decide_eq_true h2
          by_cases h3 : d < c
          case neg =>
            have d3 : decide (d < c) = false := decide_eq_false h3
            have e : hvB k c d = false := by rw [Bool.eq_false_iff, ne_eq, hvB_iff, ← keyB_iff]; intro h; omega
            rw [e]
            clear e
            go_enter Try.func72, Try.ntmps72
            go_wp2_with (go_at_call 57; refine (keyOk_any k _).mono ?_; rw [hk]; rintro e w2 ⟨rfl, rfl⟩)
            go_ret
            exact ⟨rfl, by go_grown⟩
          case pos =>
            have d3 : decide (d < c) = true := decide_eq_true h3
            have e : hvB k c d = true := by rw [hvB_iff]; have := keyB_iff.1 hk; omega
            rw [e]
            clear e
            go_enter Try.func72, Try.ntmps72
            go_wp2_with (go_at_call 57; refine (keyOk_any k _).mono ?_; rw [hk]; rintro e w2 ⟨rfl, rfl⟩)
            go_ret
            exact ⟨rfl, by go_grown⟩

set_option maxRecDepth 100000 in
set_option maxHeartbeats 4000000 in
theorem ahead_any (k c d k' c' d' : Int) (w : World) : Calls Try.prog 62 #[.agg #[.int .i64 k, .int .i64 c, .int .i64 d], .agg #[.int .i64 k', .int .i64 c', .int .i64 d']] w fun e w' => e = .returned (.bool (ahP k c k' c')) ∧ Below w.heap.size w w' := by
  unfold ahP
  by_cases h1 : c > c'
  · rw [decide_eq_true h1, Bool.true_or]
    have h0 : c' < c := h1
    go_enter Try.func62, Try.ntmps62
    go_wp2
    go_ret
    exact ⟨rfl, by go_grown⟩
  · rw [decide_eq_false h1, Bool.false_or]
    have h0 : ¬ c' < c := h1
    by_cases h2 : c = c'
    · subst h2
      rw [decide_eq_true rfl, Bool.true_and]
      go_enter Try.func62, Try.ntmps62
      go_wp2
      go_ret
      exact ⟨rfl, by go_grown⟩
    · rw [decide_eq_false h2, Bool.false_and]
      have h3 : (c == c') = false := by simp [h2]
      go_enter Try.func62, Try.ntmps62
      go_wp2
      go_ret
      exact ⟨rfl, by go_grown⟩

def cmpI (a b : Int) : Int := if a < b then -1 else if b < a then 1 else 0
def orI (x y : Int) : Int := if x = 0 then y else x
theorem cmpI_in (a b : Int) : -1 ≤ cmpI a b ∧ cmpI a b ≤ 1 := by unfold cmpI; split <;> (try split) <;> omega

set_option maxHeartbeats 1000000 in
theorem cmp_any (a b : Int) (w : World) : Calls Try.prog 99 #[.int .i64 a, .int .i64 b] w fun e w' => e = .returned (.int .i64 (cmpI a b)) ∧ w = w' := by
  unfold cmpI
  by_cases h1 : a < b
  · rw [if_pos h1]
    go_enter Try.func99, Try.ntmps99
    go_wp2
    go_ret
    exact ⟨rfl, rfl⟩
  · rw [if_neg h1]
    by_cases h2 : b < a
    · rw [if_pos h2]
      go_enter Try.func99, Try.ntmps99
      go_wp2
      go_ret
      exact ⟨rfl, rfl⟩
    · rw [if_neg h2]
      go_enter Try.func99, Try.ntmps99
      go_wp2
      go_ret
      exact ⟨rfl, rfl⟩

set_option maxHeartbeats 1000000 in
theorem or_any (g : Nat) (x y : Int) (w : World) (h0 : w.cell? ⟨g, 0, none⟩ = some (.int .i64 x)) (h1 : w.cell? ⟨g, 1, none⟩ = some (.int .i64 y)) :
    Calls Try.prog 98 #[.slice (some ⟨g, 0, none⟩) 2 2] w fun e w' => e = .returned (.int .i64 (orI x y)) ∧ w = w' := by
  unfold orI
  by_cases hx : x = 0
  · subst hx
    rw [if_pos rfl]
    go_enter Try.func98, Try.ntmps98
    go_wp2
    go_loop [5, 8] (fun _ i => ∃ k : Nat, k ≤ 2 ∧ i = .int .i64 (k : Int) ∧ (k = 2 → y = 0)) (fun _ i => 2 - (intOf i).toNat)
    case atStart => exact ⟨0, by omega, rfl, by omega⟩
    case round =>
      obtain ⟨k, hk, rfl, hy⟩ := hrel
      have hk3 : k = 0 ∨ k = 1 ∨ k = 2 := by omega
      rcases hk3 with rfl | rfl | rfl
      · clear hy
        go_wp2
        go_round
        case rel => exact ⟨1, by omega, by go_num, by omega⟩
        case measure => simp [intOf]
      · clear hy
        by_cases hy : y = 0
        · subst hy
          go_wp2
          go_round
          case rel => exact ⟨2, by omega, by go_num, by simp⟩
          case measure => simp [intOf]
        · have hz : (y != 0) = true := by simp [hy]
          go_wp2
          go_ret
          exact ⟨rfl, rfl⟩
      · obtain rfl := hy rfl
        go_wp2
        go_ret
        exact ⟨rfl, rfl⟩
  · rw [if_neg hx]
    have hz : (x != 0) = true := by simp [hx]
    go_enter Try.func98, Try.ntmps98
    go_wp2
    go_loop [5, 8] (fun _ i => i = .int .i64 0) (fun _ i => 2 - (intOf i).toNat)
    case atStart => exact rfl
    case round =>
      subst hrel
      go_wp2
      go_ret
      exact ⟨rfl, rfl⟩


/-- What the program's comparison answers. -/
def ordV (k c k' c' : Int) : Int := orI (cmpI c' c) (cmpI k k')
theorem ordV_lt (k c k' c' : Int) : decide (ordV k c k' c' < 0) = ahP k c k' c' := by
  unfold ordV orI cmpI ahP
  by_cases h1 : c' < c
  · simp [h1]
  · by_cases h2 : c < c'
    · have : ¬ c = c' := by omega
      simp [h1, h2, this]
    · have : c = c' := by omega
      subst this
      by_cases h3 : k < k'
      · simp [h3]
      · by_cases h4 : k' < k <;> simp [h3, h4]
theorem ordV_in (k c k' c' : Int) : -1 ≤ ordV k c k' c' ∧ ordV k c k' c' ≤ 1 := by
  have h1 := cmpI_in c' c
  have h2 := cmpI_in k k'
  unfold ordV orI
  split <;> omega

set_option maxRecDepth 100000 in
set_option maxHeartbeats 4000000 in
theorem order_any (k c d k' c' d' : Int) (w : World) : Calls Try.prog 75 #[.agg #[.int .i64 k, .int .i64 c, .int .i64 d], .agg #[.int .i64 k', .int .i64 c', .int .i64 d']] w fun e w' => e = .returned (.int .i64 (ordV k c k' c')) ∧ Below w.heap.size w w' := by
  unfold ordV
  go_enter Try.func75, Try.ntmps75
  go_wp2_with fail
  obtain ⟨q1, hq1⟩ : ∃ q, q = ((w.alloc (.cells #[.int .i64 k, .int .i64 c, .int .i64 d] 43)).alloc (.cells #[.int .i64 k', .int .i64 c', .int .i64 d'] 43)) := ⟨_, rfl⟩
  have hb1 : Below w.heap.size w q1 := by rw [hq1]; go_grown
  have sz1 : w.heap.size + 2 ≤ q1.heap.size := by rw [hq1]; simp
  have c1_0 : q1.cell? ⟨w.heap.size, 0, none⟩ = some (.int .i64 k) := by rw [hq1, old_box (by simp <;> omega), new_at (by simp)]; rfl
  have c1_1 : q1.cell? ⟨w.heap.size, 1, none⟩ = some (.int .i64 c) := by rw [hq1, old_box (by simp <;> omega), new_at (by simp)]; rfl
  have c1_2 : q1.cell? ⟨w.heap.size, 2, none⟩ = some (.int .i64 d) := by rw [hq1, old_box (by simp <;> omega), new_at (by simp)]; rfl
  have c1_3 : q1.cell? ⟨w.heap.size + 1, 0, none⟩ = some (.int .i64 k') := by rw [hq1, new_at (by simp)]; rfl
  have c1_4 : q1.cell? ⟨w.heap.size + 1, 1, none⟩ = some (.int .i64 c') := by rw [hq1, new_at (by simp)]; rfl
  have c1_5 : q1.cell? ⟨w.heap.size + 1, 2, none⟩ = some (.int .i64 d') := by rw [hq1, new_at (by simp)]; rfl
  have B1 : Hid (Below w.heap.size w q1) := Lib.hid hb1
  rw [← hq1]
  have d1_0 : w.heap.size < q1.heap.size := by omega
  have e1_0 : w.heap.size ≠ q1.heap.size := by omega
  have d1_1 : w.heap.size + 1 < q1.heap.size := by omega
  have e1_1 : w.heap.size + 1 ≠ q1.heap.size := by omega
  clear hq1 hb1
  go_region_held3 ((fun w' => w'.cell? ⟨w.heap.size, 0, none⟩ = some (.int .i64 k) ∧ w'.cell? ⟨w.heap.size, 1, none⟩ = some (.int .i64 c) ∧ w'.cell? ⟨w.heap.size, 2, none⟩ = some (.int .i64 d) ∧ w'.cell? ⟨w.heap.size + 1, 0, none⟩ = some (.int .i64 k') ∧ w'.cell? ⟨w.heap.size + 1, 1, none⟩ = some (.int .i64 c') ∧ w'.cell? ⟨w.heap.size + 1, 2, none⟩ = some (.int .i64 d') ∧ q1.heap.size ≤ w'.heap.size ∧ Below q1.heap.size q1 w')) (first | assumption | exact rr6_start c1_0 c1_1 c1_2 c1_3 c1_4 c1_5 | exact rr6_drew (by assumption) | exact rr6_box (by omega) (by omega) (by omega) (by omega) (by omega) (by omega) (by assumption) | exact rr6_drew (rr6_box (by omega) (by omega) (by omega) (by omega) (by omega) (by omega) ⟨c1_0, c1_1, c1_2, c1_3, c1_4, c1_5, Nat.le_refl _, Below.refl _ _⟩) | fail)
    (first | (go_at_call 99; refine (cmp_any _ _ _).mono ?_; rintro e w2 ⟨rfl, rfl⟩) | (go_at_call 98; refine (or_any _ (cmpI c' c) (cmpI k k') _ (by simp [go_sem]) (by simp [go_sem])).mono ?_; rintro e w2 ⟨rfl, rfl⟩) | fail)
  all_goals
    go_wp2_with fail
    go_ret
    exact ⟨rfl, B1.out.trans ((rr6_out (by assumption)).2.mono (by omega))⟩

/-- The column of a key in a row. -/
def colV (r k : Int) : Int := if inB r 0 3 && keyB k then ((k + 1) * (2 * r + 3) * 40503 + r * 97) % 65521 % 16 else -1
theorem colV_no {r k : Int} (h : (inB r 0 3 && keyB k) = false) : colV r k = -1 := by unfold colV; rw [h]; rfl
theorem colV_yes {r k : Int} (h : (inB r 0 3 && keyB k) = true) : colV r k = ((k + 1) * (2 * r + 3) * 40503 + r * 97) % 65521 % 16 := by unfold colV; rw [h]; rfl

end Go.Proofs.Ytophppnllkadoaa
