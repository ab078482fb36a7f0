/- The small functions as contracts: ranges, prefixes, costs, their order. -/
import Derived.Test.YtfpafjdakipccaaRows
import Derived.Test.YtfpafjdakipccaaMl
import Derived.Test.YtfpafjdakipccaaGx
import Derived.Test.YtfpafjdakipccaaReg
import Derived.WalkSpells
import Derived.WalkLawsBesides
import Derived.BigQuiet
import Derived.Deep.QuietTactic
import Derived.Deep.RegionHeld3
import Derived.Lib.Hide
import Derived.IntWalk
import Derived.WalkSmall
import Derived.Handy
import Derived.StillTailTactics
namespace Go.Proofs.Ytfpafjdakipccaa
open Go.RowKit
theorem xbelow_drewN {w w1 : World} {B : Nat} (h : Below B w w1) (q : Nat) : Below B w (w1.drewN q) := ⟨h.os, h.tape, h.output, h.size, h.block⟩
theorem inB_false' {x a b : Int} (h : ¬ (a <= x /\ x <= b)) : inB x a b = false := inB_false (by omega)
set_option maxHeartbeats 1000000 in
theorem in_any (x a b : Int) (w : World) : Calls Try.prog 74 #[.int .i64 x, .int .i64 a, .int .i64 b] w fun e w' => e = .returned (.bool (inB x a b)) /\ w = w' := by
  unfold inB
  by_cases h1 : a <= x
  · rw [decide_eq_true h1, Bool.true_and]
    go_enter Try.func74, Try.ntmps74
    go_wp2
    go_ret
    exact ⟨rfl, rfl⟩
  · rw [decide_eq_false h1, Bool.false_and]
    have h2 : decide (a <= x) = false := decide_eq_false h1
    go_enter Try.func74, Try.ntmps74
    go_wp2
    go_ret
    exact ⟨rfl, rfl⟩
set_option maxHeartbeats 400000 in
theorem addr_any (x : Int) (w : World) :
    Calls Try.prog 115 #[.int .i64 x] w fun e w' => e = .returned (.bool (inB x 0 65535)) /\ w = w' := by
  go_enter Try.func115, Try.ntmps115
  go_wp2_with (go_at_call 74; refine (in_any _ _ _ _).mono ?_; rintro e w' ⟨rfl, rfl⟩)
  go_ret
  exact ⟨rfl, rfl⟩
set_option maxHeartbeats 400000 in
theorem spsize_any (n : Int) (w : World) (h0 : 0 <= n) (h1 : n <= 16) :
    Calls Try.prog 116 #[.int .i64 n] w fun e w' => e = .returned (.int .i64 (psz n)) /\ w = w' := by
  have hb : wrap64 (2 ^ (16 - n).toNat) = psz n := by
    have a := psz_pos n h0 h1; have b := psz_le n h0 h1; unfold psz at *; rw [w_in (by omega) (by omega)]
  go_enter Try.func116, Try.ntmps116
  go_wp2
  go_ret
  exact ⟨ret_int hb, rfl⟩
set_option maxHeartbeats 400000 in
theorem size_any (net n : Int) (w : World) (h0 : 0 <= n) (h1 : n <= 16) :
    Calls Try.prog 141 #[.agg #[.int .i64 net, .int .i64 n]] w fun e w' => e = .returned (.int .i64 (psz n)) /\ Below w.heap.size w w' := by
  have hb : wrap64 (2 ^ (16 - n).toNat) = psz n := by
    have a := psz_pos n h0 h1; have b := psz_le n h0 h1; unfold psz at *; rw [w_in (by omega) (by omega)]
  go_enter Try.func141, Try.ntmps141
  go_wp2
  go_ret
  exact ⟨ret_int hb, (Below.refl _ _).alloc (Nat.le_refl _) _⟩
set_option maxHeartbeats 4000000 in
theorem spok_any (net n : Int) (w : World) :
    Calls Try.prog 89 #[.agg #[.int .i64 net, .int .i64 n]] w fun e w' => e = .returned (.bool (pokB net n)) /\ Below w.heap.size w w' := by
  unfold pokB
  by_cases h1 : 0 <= n /\ n <= 16
  · obtain ⟨h0, h1⟩ := h1
    have hn := inB_true h0 h1
    by_cases h2 : 0 <= net /\ net <= 65535
    · obtain ⟨h2, h3⟩ := h2
      have ha := inB_true h2 h3
      rw [hn, ha, Bool.and_self, Bool.true_and]
      have hp := psz_pos n h0 h1
      have hq := psz_le n h0 h1
      have hz : ¬ (psz n = 0) := by omega
      have ht : net.tmod (psz n) = net % psz n := Int.tmod_eq_emod_of_nonneg h2
      go_enter Try.func89, Try.ntmps89
      go_wp2_with fail
      go_quiet (first | ((go_at_call 74; exact quiet_same (in_any _ _ _ _))) | ((go_at_call 115; exact quiet_same (addr_any _ _))) | ((go_at_call 116; exact quiet_same (spsize_any _ _ h0 h1))))
      go_wp2_with fail
      go_ret
      exact ⟨rfl, xbelow_drewN ((Below.refl _ _).alloc (Nat.le_refl _) _) _⟩
    · have ha := inB_false' h2
      rw [hn, ha, Bool.and_false, Bool.false_and]
      clear h2
      go_enter Try.func89, Try.ntmps89
      go_wp2_with fail
      go_quiet (first | ((go_at_call 74; exact quiet_same (in_any _ _ _ _))) | ((go_at_call 115; exact quiet_same (addr_any _ _))))
      go_wp2_with fail
      go_ret
      exact ⟨rfl, xbelow_drewN ((Below.refl _ _).alloc (Nat.le_refl _) _) _⟩
  · have hn := inB_false' h1
    rw [hn, Bool.false_and, Bool.false_and]
    clear h1
    go_enter Try.func89, Try.ntmps89
    go_wp2_with fail
    go_quiet (first | ((go_at_call 74; exact quiet_same (in_any _ _ _ _))))
    go_wp2_with fail
    go_ret
    exact ⟨rfl, xbelow_drewN ((Below.refl _ _).alloc (Nat.le_refl _) _) _⟩
set_option maxHeartbeats 400000 in
theorem iaddr_any (x : Int) (w : World) :
    Calls Try.prog 140 #[.int .i64 x] w fun e w' => e = .returned (.bool (inB x 0 65535)) /\ w = w' := by
  by_cases h1 : 0 <= x
  · by_cases h2 : x <= 65535
    · rw [inB_true h1 h2]
      have h3 : x < 65535 + 1 := by omega
      simp only [Int.reduceAdd] at h3
      go_enter Try.func140, Try.ntmps140
      go_wp2
      go_ret
      exact ⟨rfl, rfl⟩
    · rw [inB_false (by omega)]
      have h3 : ¬ x < 65535 + 1 := by omega
      simp only [Int.reduceAdd] at h3
      go_enter Try.func140, Try.ntmps140
      go_wp2
      go_ret
      exact ⟨rfl, rfl⟩
  · rw [inB_false (by omega)]
    go_enter Try.func140, Try.ntmps140
    go_wp2
    go_ret
    exact ⟨rfl, rfl⟩
set_option maxHeartbeats 400000 in
theorem cost_any (x : Int) (w : World) :
    Calls Try.prog 121 #[.int .i64 x] w fun e w' => e = .returned (.bool (inB x 1 1000)) /\ w = w' := by
  by_cases h1 : 1 <= x
  · by_cases h2 : x <= 1000
    · rw [inB_true h1 h2]
      have h3 : x < 1000 + 1 := by omega
      simp only [Int.reduceAdd] at h3
      go_enter Try.func121, Try.ntmps121
      go_wp2
      go_ret
      exact ⟨rfl, rfl⟩
    · rw [inB_false (by omega)]
      have h3 : ¬ x < 1000 + 1 := by omega
      simp only [Int.reduceAdd] at h3
      go_enter Try.func121, Try.ntmps121
      go_wp2
      go_ret
      exact ⟨rfl, rfl⟩
  · rw [inB_false (by omega)]
    go_enter Try.func121, Try.ntmps121
    go_wp2
    go_ret
    exact ⟨rfl, rfl⟩
set_option maxHeartbeats 400000 in
theorem origin_any (x : Int) (w : World) :
    Calls Try.prog 94 #[.int .i64 x] w fun e w' => e = .returned (.bool (inB x 0 9)) /\ w = w' := by
  by_cases h1 : 0 <= x
  · by_cases h2 : x <= 9
    · rw [inB_true h1 h2]
      have h3 : x < 9 + 1 := by omega
      simp only [Int.reduceAdd] at h3
      go_enter Try.func94, Try.ntmps94
      go_wp2
      go_ret
      exact ⟨rfl, rfl⟩
    · rw [inB_false (by omega)]
      have h3 : ¬ x < 9 + 1 := by omega
      simp only [Int.reduceAdd] at h3
      go_enter Try.func94, Try.ntmps94
      go_wp2
      go_ret
      exact ⟨rfl, rfl⟩
  · rw [inB_false (by omega)]
    go_enter Try.func94, Try.ntmps94
    go_wp2
    go_ret
    exact ⟨rfl, rfl⟩
theorem box_keep0 (w : World) (c0 c1 : Value) (T : TypeId) :
    (w.alloc (.cells #[c0, c1] T)).drew.cell? ⟨w.heap.size, 0, none⟩ = some c0 /\ (w.alloc (.cells #[c0, c1] T)).drew.cell? ⟨w.heap.size, 1, none⟩ = some c1 /\ w.heap.size < (w.alloc (.cells #[c0, c1] T)).drew.heap.size /\ Below w.heap.size w (w.alloc (.cells #[c0, c1] T)).drew :=
  ⟨by simp, by simp, by simp, ((Below.refl _ _).alloc (Nat.le_refl _) _).drew⟩
theorem box_keep {w w1 w2 : World} {c0 c1 : Value}
    (h : w1.cell? ⟨w.heap.size, 0, none⟩ = some c0 /\ w1.cell? ⟨w.heap.size, 1, none⟩ = some c1 /\ w.heap.size < w1.heap.size /\ Below w.heap.size w w1)
    (hb : Below w1.heap.size w1 w2) :
    w2.cell? ⟨w.heap.size, 0, none⟩ = some c0 /\ w2.cell? ⟨w.heap.size, 1, none⟩ = some c1 /\ w.heap.size < w2.heap.size /\ Below w.heap.size w w2 := by
  obtain ⟨h0, h1, h2, h3⟩ := h
  obtain ⟨hc, hf⟩ := bcell hb
  have := hb.size
  exact ⟨by rw [hc _ _ h2]; exact h0, by rw [hc _ _ h2]; exact h1, by omega, h3.trans (hb.mono (by omega))⟩
theorem box_below {w w2 : World} {c0 c1 : Value}
    (h : w2.cell? ⟨w.heap.size, 0, none⟩ = some c0 /\ w2.cell? ⟨w.heap.size, 1, none⟩ = some c1 /\ w.heap.size < w2.heap.size /\ Below w.heap.size w w2) : Below w.heap.size w w2 := h.2.2.2
set_option maxHeartbeats 1000000 in
theorem pok_yes (net n : Int) (w : World) (h0 : 0 <= n) (h1 : n <= 16) (h2 : 0 <= net) (h3 : net <= 65535) :
    Calls Try.prog 122 #[.agg #[.int .i64 net, .int .i64 n]] w fun e w' => e = .returned (.bool (net % psz n == 0)) /\ Below w.heap.size w w' := by
  have ha := inB_true h2 h3
  have hp := psz_pos n h0 h1
  have hq := psz_le n h0 h1
  have hz : ¬ (psz n = 0) := by omega
  have ht : net.tmod (psz n) = net % psz n := Int.tmod_eq_emod_of_nonneg h2
  go_enter Try.func122, Try.ntmps122
  go_wp2_with fail
  go_region_held3 (fun w' => w'.cell? ⟨w.heap.size, 0, none⟩ = some (.int .i64 net) /\ w'.cell? ⟨w.heap.size, 1, none⟩ = some (.int .i64 n) /\ w.heap.size < w'.heap.size /\ Below w.heap.size w w') (first | assumption | exact box_keep0 _ _ _ _ | exact box_keep (by assumption) (by assumption))
    (first | (go_at_call 140; refine (iaddr_any _ _).mono ?_; rintro e w2 ⟨rfl, rfl⟩) | (go_at_call 141; refine (size_any _ _ _ h0 h1).mono ?_; rintro e w2 ⟨rfl, hb⟩))
  go_wp2_with fail
  go_ret
  exact ⟨rfl, box_below (by assumption)⟩
set_option maxHeartbeats 4000000 in
theorem pok_no1 (net n : Int) (w : World) (h0 : 0 <= n) (h1 : n <= 16) (ha : inB net 0 65535 = false) :
    Calls Try.prog 122 #[.agg #[.int .i64 net, .int .i64 n]] w fun e w' => e = .returned (.bool false) /\ Below w.heap.size w w' := by
  go_enter Try.func122, Try.ntmps122
  go_wp2_with fail
  go_quiet (first | ((go_at_call 140; exact quiet_same (iaddr_any _ _))))
  go_wp2_with fail
  go_ret
  exact ⟨rfl, xbelow_drewN ((Below.refl _ _).alloc (Nat.le_refl _) _) _⟩
set_option maxHeartbeats 4000000 in
theorem pok_no2 (net n : Int) (w : World) (h0 : 0 <= n) (hd : decide (n <= 16) = false) :
    Calls Try.prog 122 #[.agg #[.int .i64 net, .int .i64 n]] w fun e w' => e = .returned (.bool false) /\ Below w.heap.size w w' := by
  go_enter Try.func122, Try.ntmps122
  go_wp2_with fail
  go_quiet (fail)
  go_wp2_with fail
  go_ret
  exact ⟨rfl, xbelow_drewN ((Below.refl _ _).alloc (Nat.le_refl _) _) _⟩
set_option maxHeartbeats 4000000 in
theorem pok_no3 (net n : Int) (w : World) (hd : decide (0 <= n) = false) :
    Calls Try.prog 122 #[.agg #[.int .i64 net, .int .i64 n]] w fun e w' => e = .returned (.bool false) /\ Below w.heap.size w w' := by
  go_enter Try.func122, Try.ntmps122
  go_wp2_with fail
  go_quiet (fail)
  go_wp2_with fail
  go_ret
  exact ⟨rfl, xbelow_drewN ((Below.refl _ _).alloc (Nat.le_refl _) _) _⟩
theorem pok_any (net n : Int) (w : World) :
    Calls Try.prog 122 #[.agg #[.int .i64 net, .int .i64 n]] w fun e w' => e = .returned (.bool (pokB net n)) /\ Below w.heap.size w w' := by
  unfold pokB
  by_cases h1 : 0 <= n /\ n <= 16
  · by_cases h2 : 0 <= net /\ net <= 65535
    · rw [inB_true h1.1 h1.2, inB_true h2.1 h2.2, Bool.and_self, Bool.true_and]; exact pok_yes net n w h1.1 h1.2 h2.1 h2.2
    · rw [inB_true h1.1 h1.2, inB_false' h2, Bool.and_false, Bool.false_and]; exact pok_no1 net n w h1.1 h1.2 (inB_false' h2)
  · rw [inB_false' h1, Bool.false_and, Bool.false_and]
    by_cases h0 : 0 <= n
    · exact pok_no2 net n w h0 (by simp; omega)
    · exact pok_no3 net n w (by simp; omega)
def cmpI (a b : Int) : Int := if a < b then -1 else if b < a then 1 else 0
def orI (x y : Int) : Int := if x = 0 then y else x
def cmpP (a b c d : Int) : Int := orI (cmpI a c) (cmpI b d)
theorem cmpP_ah (a b c d : Int) : decide (0 <= cmpP a b c d) = !eahB a b c d := by
  unfold cmpP orI cmpI eahB
  by_cases h1 : a < c
  · simp [h1]
  · by_cases h2 : c < a
    · have : ¬ a = c := by omega
      simp [h1, h2, this]
    · have : a = c := by omega
      subst this
      by_cases h3 : b < d
      · simp [h3]
      · by_cases h4 : d < b <;> simp [h3, h4]
set_option maxHeartbeats 1000000 in
theorem ahead_any (a b c d : Int) (w : World) :
    Calls Try.prog 90 #[.agg #[.int .i64 a, .int .i64 b], .agg #[.int .i64 c, .int .i64 d]] w fun e w' => e = .returned (.bool (eahB a b c d)) /\ Below w.heap.size w w' := by
  unfold eahB
  by_cases h1 : a < c
  · rw [decide_eq_true h1, Bool.true_or]
    go_enter Try.func90, Try.ntmps90
    go_wp2
    go_ret
    exact ⟨rfl, by go_grown⟩
  · rw [decide_eq_false h1, Bool.false_or]
    by_cases h2 : a = c
    · subst h2
      rw [decide_eq_true rfl, Bool.true_and]
      go_enter Try.func90, Try.ntmps90
      go_wp2
      go_ret
      exact ⟨rfl, by go_grown⟩
    · rw [decide_eq_false h2, Bool.false_and]
      have h3 : (a == c) = false := by simp [h2]
      go_enter Try.func90, Try.ntmps90
      go_wp2
      go_ret
      exact ⟨rfl, by go_grown⟩
set_option maxHeartbeats 1000000 in
theorem cmp_any (a b : Int) (w : World) : Calls Try.prog 127 #[.int .i64 a, .int .i64 b] w fun e w' => e = .returned (.int .i64 (cmpI a b)) /\ w = w' := by
  unfold cmpI
  by_cases h1 : a < b
  · rw [if_pos h1]
    go_enter Try.func127, Try.ntmps127
    go_wp2
    go_ret
    exact ⟨rfl, rfl⟩
  · rw [if_neg h1]
    by_cases h2 : b < a
    · rw [if_pos h2]
      go_enter Try.func127, Try.ntmps127
      go_wp2
      go_ret
      exact ⟨rfl, rfl⟩
    · rw [if_neg h2]
      go_enter Try.func127, Try.ntmps127
      go_wp2
      go_ret
      exact ⟨rfl, rfl⟩
set_option maxHeartbeats 1000000 in
theorem or_any (g : Nat) (x y : Int) (w : World) (h0 : w.cell? ⟨g, 0, none⟩ = some (.int .i64 x)) (h1 : w.cell? ⟨g, 1, none⟩ = some (.int .i64 y)) :
    Calls Try.prog 126 #[.slice (some ⟨g, 0, none⟩) 2 2] w fun e w' => e = .returned (.int .i64 (orI x y)) /\ w = w' := by
  unfold orI
  by_cases hx : x = 0
  · subst hx
    rw [if_pos rfl]
    go_enter Try.func126, Try.ntmps126
    go_wp2
    go_loop [5, 8] (fun _ i => ∃ k : Nat, k <= 2 /\ i = .int .i64 (k : Int) /\ (k = 2 -> y = 0)) (fun _ i => 2 - (intOf i).toNat)
    case atStart => exact ⟨0, by omega, rfl, by omega⟩
    case round =>
      obtain ⟨k, hk, rfl, hy⟩ := hrel
      have hk3 : k = 0 ∨ k = 1 ∨ k = 2 := by omega
      rcases hk3 with rfl | rfl | rfl
      · clear hy
        go_wp2
        go_round
        case rel => exact ⟨1, by omega, by go_num, by omega⟩
        case measure => simp [intOf]
      · clear hy
        by_cases hy : y = 0
        · subst hy
          go_wp2
          go_round
          case rel => exact ⟨2, by omega, by go_num, by simp⟩
          case measure => simp [intOf]
        · have hz : (y != 0) = true := by simp [hy]
          go_wp2
          go_ret
          exact ⟨rfl, rfl⟩
      · obtain rfl := hy rfl
        go_wp2
        go_ret
        exact ⟨rfl, rfl⟩
  · rw [if_neg hx]
    have hz : (x != 0) = true := by simp [hx]
    go_enter Try.func126, Try.ntmps126
    go_wp2
    go_loop [5, 8] (fun _ i => i = .int .i64 0) (fun _ i => 2 - (intOf i).toNat)
    case atStart => exact rfl
    case round =>
      subst hrel
      go_wp2
      go_ret
      exact ⟨rfl, rfl⟩
theorem box2p_keep0 (w : World) (c0 c1 d0 d1 : Value) (T T' : TypeId) :
    ((w.alloc (.cells #[c0, c1] T)).alloc (.cells #[d0, d1] T')).drew.cell? ⟨w.heap.size, 0, none⟩ = some c0 /\ ((w.alloc (.cells #[c0, c1] T)).alloc (.cells #[d0, d1] T')).drew.cell? ⟨w.heap.size, 1, none⟩ = some c1 /\
    ((w.alloc (.cells #[c0, c1] T)).alloc (.cells #[d0, d1] T')).drew.cell? ⟨w.heap.size + 1, 0, none⟩ = some d0 /\ ((w.alloc (.cells #[c0, c1] T)).alloc (.cells #[d0, d1] T')).drew.cell? ⟨w.heap.size + 1, 1, none⟩ = some d1 /\
    w.heap.size + 1 < ((w.alloc (.cells #[c0, c1] T)).alloc (.cells #[d0, d1] T')).drew.heap.size /\ Below w.heap.size w ((w.alloc (.cells #[c0, c1] T)).alloc (.cells #[d0, d1] T')).drew :=
  ⟨by simp [go_sem], by simp [go_sem], by simp [go_sem], by simp [go_sem], by simp [go_sem], (((Below.refl _ _).alloc (Nat.le_refl _) _).alloc (by simp) _).drew⟩
theorem box2p_box {w w1 : World} {c0 c1 d0 d1 : Value} {o : Obj}
    (h : w1.cell? ⟨w.heap.size, 0, none⟩ = some c0 /\ w1.cell? ⟨w.heap.size, 1, none⟩ = some c1 /\ w1.cell? ⟨w.heap.size + 1, 0, none⟩ = some d0 /\ w1.cell? ⟨w.heap.size + 1, 1, none⟩ = some d1 /\ w.heap.size + 1 < w1.heap.size /\ Below w.heap.size w w1) :
    (w1.alloc o).cell? ⟨w.heap.size, 0, none⟩ = some c0 /\ (w1.alloc o).cell? ⟨w.heap.size, 1, none⟩ = some c1 /\ (w1.alloc o).cell? ⟨w.heap.size + 1, 0, none⟩ = some d0 /\ (w1.alloc o).cell? ⟨w.heap.size + 1, 1, none⟩ = some d1 /\ w.heap.size + 1 < (w1.alloc o).heap.size /\ Below w.heap.size w (w1.alloc o) := by
  obtain ⟨h1, h2, h3, h4, h5, h6⟩ := h
  exact ⟨by rw [old_box (by omega)]; exact h1, by rw [old_box (by omega)]; exact h2, by rw [old_box (by omega)]; exact h3, by rw [old_box (by omega)]; exact h4, by simp; omega, h6.alloc (by omega) o⟩
theorem box2p_below {w w1 : World} {c0 c1 d0 d1 : Value}
    (h : w1.cell? ⟨w.heap.size, 0, none⟩ = some c0 /\ w1.cell? ⟨w.heap.size, 1, none⟩ = some c1 /\ w1.cell? ⟨w.heap.size + 1, 0, none⟩ = some d0 /\ w1.cell? ⟨w.heap.size + 1, 1, none⟩ = some d1 /\ w.heap.size + 1 < w1.heap.size /\ Below w.heap.size w w1) : Below w.heap.size w w1 := h.2.2.2.2.2
theorem box2p_drew {w w1 : World} {c0 c1 d0 d1 : Value}
    (h : w1.cell? ⟨w.heap.size, 0, none⟩ = some c0 /\ w1.cell? ⟨w.heap.size, 1, none⟩ = some c1 /\ w1.cell? ⟨w.heap.size + 1, 0, none⟩ = some d0 /\ w1.cell? ⟨w.heap.size + 1, 1, none⟩ = some d1 /\ w.heap.size + 1 < w1.heap.size /\ Below w.heap.size w w1) :
    w1.drew.cell? ⟨w.heap.size, 0, none⟩ = some c0 /\ w1.drew.cell? ⟨w.heap.size, 1, none⟩ = some c1 /\ w1.drew.cell? ⟨w.heap.size + 1, 0, none⟩ = some d0 /\ w1.drew.cell? ⟨w.heap.size + 1, 1, none⟩ = some d1 /\ w.heap.size + 1 < w1.drew.heap.size /\ Below w.heap.size w w1.drew :=
  ⟨h.1, h.2.1, h.2.2.1, h.2.2.2.1, h.2.2.2.2.1, h.2.2.2.2.2.drew⟩
set_option maxHeartbeats 2000000 in
theorem compare_any (a b c d : Int) (w : World) :
    Calls Try.prog 123 #[.agg #[.int .i64 a, .int .i64 b], .agg #[.int .i64 c, .int .i64 d]] w fun e w' => e = .returned (.int .i64 (cmpP a b c d)) /\ Below w.heap.size w w' := by
  unfold cmpP
  go_enter Try.func123, Try.ntmps123
  go_wp2_with fail
  go_region_held3 (fun w' => w'.cell? ⟨w.heap.size, 0, none⟩ = some (.int .i64 a) /\ w'.cell? ⟨w.heap.size, 1, none⟩ = some (.int .i64 b) /\ w'.cell? ⟨w.heap.size + 1, 0, none⟩ = some (.int .i64 c) /\ w'.cell? ⟨w.heap.size + 1, 1, none⟩ = some (.int .i64 d) /\ w.heap.size + 1 < w'.heap.size /\ Below w.heap.size w w') (first | assumption | exact box2p_keep0 _ _ _ _ _ _ _ | exact box2p_drew (by assumption) | exact box2p_box (by assumption))
    (first | (go_at_call 127; refine (cmp_any _ _ _).mono ?_; rintro e w2 ⟨rfl, rfl⟩) | (go_at_call 126; refine (or_any _ (cmpI a c) (cmpI b d) _ (by simp [go_sem]) (by simp [go_sem])).mono ?_; rintro e w2 ⟨rfl, rfl⟩))
  all_goals
    go_wp2_with fail
    go_ret
    exact ⟨rfl, box2p_below (by assumption)⟩
end Go.Proofs.Ytfpafjdakipccaa
