/- slices.Grow of no slice. -/
import Derived.Test.YtjenjdhoblcohaaW6
import Derived.Test.YtjenjdhoblcohaaMd
import Derived.Lib.AppendZerosOnto
import Derived.Lib.SliceRun
import Derived.Lib.AppendZeros
import Derived.Test.YtjenjdhoblcohaaGi
import Derived.Test.YtjenjdhoblcohaaQg
namespace Go.Proofs.Ytjenjdhoblcohaa
open Go.RowKit

set_option maxHeartbeats 1000000 in
theorem end_any (c z : Int) (g m cap : Nat) (w : World) (hm : m ≤ 1100000) (hg : g < w.heap.size) (hz : w.cell? ⟨g, m, none⟩ = some (.int .i64 z)) :
    Calls Try.prog 73 #[.agg #[.int .i64 c, .slice (some ⟨g, 0, none⟩) (m + 1) cap]] w fun e w' => e = .returned (.int .i64 z) ∧ Below w.heap.size w w' := by
  have k0 : (w.alloc (.cells #[.int .i64 c, .slice (some ⟨g, 0, none⟩) (m + 1) cap] 86)).cell? ⟨g, m, none⟩ = some (.int .i64 z) := by rw [old_box hg]; exact hz
  have q0 : (0 : Int) ≤ (m : Int) := by omega
  have q1 : (m : Int) < (m : Int) + 1 := by omega
  go_enter Try.func73, Try.ntmps73
  go_wp2
  go_ret
  exact ⟨rfl, by go_grown⟩

/-- What slices.Compare says of two lists. -/
def cmpL : List Int → List Int → Int
  | [], [] => 0
  | [], _ :: _ => -1
  | _ :: _, [] => 1
  | a :: us, b :: vs => if cmpI a b = 0 then cmpL us vs else cmpI a b
theorem cmpL_in : ∀ a b, -1 ≤ cmpL a b ∧ cmpL a b ≤ 1
  | [], [] => by simp [cmpL]
  | [], _ :: _ => by simp [cmpL]
  | _ :: _, [] => by simp [cmpL]
  | a :: us, b :: vs => by
    unfold cmpL
    split
    · exact cmpL_in us vs
    · exact cmpI_in a b
theorem cmpL_lt : ∀ a b, decide (cmpL a b < 0) = lexB a b
  | [], [] => by simp [cmpL, lexB]
  | [], _ :: _ => by simp [cmpL, lexB]
  | _ :: _, [] => by simp [cmpL, lexB]
  | a :: us, b :: vs => by
    unfold cmpL lexB
    unfold cmpI
    by_cases h1 : a < b
    · simp [h1]
    · by_cases h2 : b < a
      · have : ¬ a = b := by omega
        simp [h1, h2, this]
      · have : a = b := by omega
        subst this
        simp [cmpL_lt us vs]
theorem cmpL_drop {A B : List Int} {k : Nat} {x y : Int} (ha : A[k]? = some x) (hb : B[k]? = some y) : cmpL (A.drop k) (B.drop k) = if cmpI x y = 0 then cmpL (A.drop (k + 1)) (B.drop (k + 1)) else cmpI x y := by
  rw [List.drop_eq_getElem_cons (List.getElem?_eq_some_iff.1 ha).1, List.drop_eq_getElem_cons (List.getElem?_eq_some_iff.1 hb).1, (List.getElem?_eq_some_iff.1 ha).2, (List.getElem?_eq_some_iff.1 hb).2]
  rfl

theorem cmpL_l {A B : List Int} {k : Nat} (h1 : k < A.length) (h2 : B.length ≤ k) : cmpL (A.drop k) (B.drop k) = 1 := by
  have e1 : B.drop k = [] := List.drop_of_length_le h2
  have e2 := List.drop_eq_getElem_cons h1
  rw [e1, e2]; simp [cmpL]
theorem cmpL_r {A B : List Int} {k : Nat} (h1 : k < B.length) (h2 : A.length ≤ k) : cmpL (A.drop k) (B.drop k) = -1 := by
  have e1 : A.drop k = [] := List.drop_of_length_le h2
  have e2 := List.drop_eq_getElem_cons h1
  rw [e1, e2]; simp [cmpL]
theorem cmpL_e {A B : List Int} {k : Nat} (h1 : B.length ≤ k) (h2 : A.length ≤ k) : cmpL (A.drop k) (B.drop k) = 0 := by
  have e1 : A.drop k = [] := List.drop_of_length_le h2
  have e2 : B.drop k = [] := List.drop_of_length_le h1
  rw [e1, e2]; simp [cmpL]

set_option maxRecDepth 100000 in
set_option maxHeartbeats 2000000 in
theorem compareS_any (ga ca gb cb : Nat) (na nb : Nat) (A B : List Int) (w : World) (hA : A.length = na) (hB : B.length = nb) (hna : na ≤ 1100000) (hnb : nb ≤ 1100000)
    (ha : ∀ q z, A[q]? = some z → w.cell? ⟨ga, q, none⟩ = some (.int .i64 z)) (hb : ∀ q z, B[q]? = some z → w.cell? ⟨gb, q, none⟩ = some (.int .i64 z)) :
    Calls Try.prog 113 #[.slice (some ⟨ga, 0, none⟩) na ca, .slice (some ⟨gb, 0, none⟩) nb cb] w fun e w' => e = .returned (.int .i64 (cmpL A B)) ∧ w = w' := by
  have HA := Lib.hid hA
  have HB := Lib.hid hB
  have Ha := Lib.hid ha
  have Hb := Lib.hid hb
  clear hA hB ha hb
  go_enter Try.func113, Try.ntmps113
  go_wp2
  go_loop [11] (fun i => ∃ k : Nat, k ≤ na ∧ k ≤ nb ∧ i = .int .i64 (k : Int) ∧ Hid (cmpL A B = cmpL (A.drop k) (B.drop k))) (fun i => na - (intOf i).toNat)
  case atStart => exact ⟨0, Nat.zero_le _, Nat.zero_le _, rfl, rfl⟩
  case round =>
    obtain ⟨k, hk, hkb, rfl, hC⟩ := hrel
    by_cases hlt : k < na
    · obtain ⟨x, hx⟩ : ∃ x, A[k]? = some x := ⟨A[k]'(by rw [HA.out]; exact hlt), List.getElem?_eq_getElem _⟩
      have z0 := Ha.out _ _ hx
      have q0 : (0 : Int) ≤ (k : Int) := by omega
      have q1 : (k : Int) < (na : Int) := by omega
      by_cases hlb : k < nb
      · obtain ⟨y, hy⟩ : ∃ y, B[k]? = some y := ⟨B[k]'(by rw [HB.out]; exact hlb), List.getElem?_eq_getElem _⟩
        have z1 := Hb.out _ _ hy
        have hD := cmpL_drop hx hy
        have q2 : (k : Int) < (nb : Int) := by omega
        have q3 : decide ((nb : Int) ≤ (k : Int)) = false := decide_eq_false (by omega)
        by_cases hc : cmpI x y = 0
        · have HC : Hid (cmpL A B = cmpL (A.drop (k + 1)) (B.drop (k + 1))) := by show _ = _; rw [hC.out, hD, if_pos hc]
          have hce : (cmpI x y != 0) = false := by simp [hc]
          clear hc hD hx hy hC
          go_wp2_with (go_at_call 65; refine (cmp_any _ _ _).mono ?_; rintro e w' ⟨rfl, rfl⟩)
          go_round
          case rel => exact ⟨k + 1, by omega, by omega, by go_num, HC⟩
          case measure => simp [intOf]; omega
        · have HC : Hid (cmpL A B = cmpI x y) := by show _ = _; rw [hC.out, hD, if_neg hc]
          have hce : (cmpI x y != 0) = true := by simp [hc]
          clear hc hD hx hy hC
          go_wp2_with (go_at_call 65; refine (cmp_any _ _ _).mono ?_; rintro e w' ⟨rfl, rfl⟩)
          go_ret
          exact ⟨by rw [HC.out]; rfl, rfl⟩
      · have hge : (nb : Int) ≤ (k : Int) := by omega
        have HC : Hid (cmpL A B = 1) := by
          show _ = _
          rw [hC.out, cmpL_l (List.getElem?_eq_some_iff.1 hx).1 (by rw [HB.out]; omega)]
        clear hx hC
        go_wp2
        go_ret
        exact ⟨by rw [HC.out]; rfl, rfl⟩
    · have hge : ¬ ((k : Int) < (na : Int)) := by omega
      obtain rfl : k = na := by omega
      by_cases hlb : k < nb
      · have HC : Hid (cmpL A B = -1) := by
          show _ = _
          rw [hC.out, cmpL_r (by rw [HB.out]; exact hlb) (by rw [HA.out]; exact Nat.le_refl _)]
        have q2 : (k : Int) < (nb : Int) := by omega
        clear hC
        go_wp2
        go_ret
        exact ⟨by rw [HC.out]; rfl, rfl⟩
      · obtain rfl : k = nb := by omega
        have HC : Hid (cmpL A B = 0) := by
          show _ = _
          rw [hC.out, cmpL_e (by rw [HB.out]; exact Nat.le_refl _) (by rw [HA.out]; exact Nat.le_refl _)]
        clear hC
        go_wp2
        go_ret
        exact ⟨by rw [HC.out]; rfl, rfl⟩

theorem box2p_keep0 (w : World) (c0 c1 d0 d1 : Value) (T T' : TypeId) :
    ((w.alloc (.cells #[c0, c1] T)).alloc (.cells #[d0, d1] T')).drew.cell? ⟨w.heap.size, 0, none⟩ = some c0 ∧ ((w.alloc (.cells #[c0, c1] T)).alloc (.cells #[d0, d1] T')).drew.cell? ⟨w.heap.size, 1, none⟩ = some c1 ∧
    ((w.alloc (.cells #[c0, c1] T)).alloc (.cells #[d0, d1] T')).drew.cell? ⟨w.heap.size + 1, 0, none⟩ = some d0 ∧ ((w.alloc (.cells #[c0, c1] T)).alloc (.cells #[d0, d1] T')).drew.cell? ⟨w.heap.size + 1, 1, none⟩ = some d1 ∧
    w.heap.size + 1 < ((w.alloc (.cells #[c0, c1] T)).alloc (.cells #[d0, d1] T')).drew.heap.size ∧ Below w.heap.size w ((w.alloc (.cells #[c0, c1] T)).alloc (.cells #[d0, d1] T')).drew :=
  ⟨by simp [go_sem], by simp [go_sem], by simp [go_sem], by simp [go_sem], by simp [go_sem], (((Below.refl _ _).alloc (Nat.le_refl _) _).alloc (by simp) _).drew⟩
theorem box2p_box {w w1 : World} {c0 c1 d0 d1 : Value} {o : Obj}
    (h : w1.cell? ⟨w.heap.size, 0, none⟩ = some c0 ∧ w1.cell? ⟨w.heap.size, 1, none⟩ = some c1 ∧ w1.cell? ⟨w.heap.size + 1, 0, none⟩ = some d0 ∧ w1.cell? ⟨w.heap.size + 1, 1, none⟩ = some d1 ∧ w.heap.size + 1 < w1.heap.size ∧ Below w.heap.size w w1) :
    (w1.alloc o).cell? ⟨w.heap.size, 0, none⟩ = some c0 ∧ (w1.alloc o).cell? ⟨w.heap.size, 1, none⟩ = some c1 ∧ (w1.alloc o).cell? ⟨w.heap.size + 1, 0, none⟩ = some d0 ∧ (w1.alloc o).cell? ⟨w.heap.size + 1, 1, none⟩ = some d1 ∧ w.heap.size + 1 < (w1.alloc o).heap.size ∧ Below w.heap.size w (w1.alloc o) := by
  obtain ⟨h1, h2, h3, h4, h5, h6⟩ := h
  exact ⟨by rw [old_box (by omega)]; exact h1, by rw [old_box (by omega)]; exact h2, by rw [old_box (by omega)]; exact h3, by rw [old_box (by omega)]; exact h4, by simp; omega, h6.alloc (by omega) o⟩
theorem box2p_below {w w1 : World} {c0 c1 d0 d1 : Value}
    (h : w1.cell? ⟨w.heap.size, 0, none⟩ = some c0 ∧ w1.cell? ⟨w.heap.size, 1, none⟩ = some c1 ∧ w1.cell? ⟨w.heap.size + 1, 0, none⟩ = some d0 ∧ w1.cell? ⟨w.heap.size + 1, 1, none⟩ = some d1 ∧ w.heap.size + 1 < w1.heap.size ∧ Below w.heap.size w w1) : Below w.heap.size w w1 := h.2.2.2.2.2
theorem box2p_drew {w w1 : World} {c0 c1 d0 d1 : Value}
    (h : w1.cell? ⟨w.heap.size, 0, none⟩ = some c0 ∧ w1.cell? ⟨w.heap.size, 1, none⟩ = some c1 ∧ w1.cell? ⟨w.heap.size + 1, 0, none⟩ = some d0 ∧ w1.cell? ⟨w.heap.size + 1, 1, none⟩ = some d1 ∧ w.heap.size + 1 < w1.heap.size ∧ Below w.heap.size w w1) :
    w1.drew.cell? ⟨w.heap.size, 0, none⟩ = some c0 ∧ w1.drew.cell? ⟨w.heap.size, 1, none⟩ = some c1 ∧ w1.drew.cell? ⟨w.heap.size + 1, 0, none⟩ = some d0 ∧ w1.drew.cell? ⟨w.heap.size + 1, 1, none⟩ = some d1 ∧ w.heap.size + 1 < w1.drew.heap.size ∧ Below w.heap.size w w1.drew :=
  ⟨h.1, h.2.1, h.2.2.1, h.2.2.2.1, h.2.2.2.2.1, h.2.2.2.2.2.drew⟩


def or3 (x y z : Int) : Int := orI x (orI y z)
theorem or3_a {x y z : Int} (h : ¬ x = 0) : or3 x y z = x := by unfold or3 orI; rw [if_neg h]
theorem or3_b {x y z : Int} (h : x = 0) (h2 : ¬ y = 0) : or3 x y z = y := by unfold or3 orI; rw [if_pos h, if_neg h2]
theorem or3_c {x y z : Int} (h : x = 0) (h2 : y = 0) : or3 x y z = z := by unfold or3 orI; rw [if_pos h, if_pos h2]
set_option maxHeartbeats 1000000 in
theorem or3_any (g : Nat) (x y z : Int) (w : World) (h0 : w.cell? ⟨g, 0, none⟩ = some (.int .i64 x)) (h1 : w.cell? ⟨g, 1, none⟩ = some (.int .i64 y)) (h2 : w.cell? ⟨g, 2, none⟩ = some (.int .i64 z)) :
    Calls Try.prog 108 #[.slice (some ⟨g, 0, none⟩) 3 3] w fun e w' => e = .returned (.int .i64 (or3 x y z)) ∧ w = w' := by
  go_enter Try.func108, Try.ntmps108
  go_wp2
  go_loop [5, 8] (fun _ i => ∃ k : Nat, k ≤ 3 ∧ i = .int .i64 (k : Int) ∧ Hid ((1 ≤ k → x = 0) ∧ (2 ≤ k → y = 0) ∧ (3 ≤ k → z = 0))) (fun _ i => 3 - (intOf i).toNat)
  case atStart => exact ⟨0, by omega, rfl, by omega, by omega, by omega⟩
  case round =>
    obtain ⟨k, hk, rfl, hy⟩ := hrel
    have hk3 : k = 0 ∨ k = 1 ∨ k = 2 ∨ k = 3 := by omega
    rcases hk3 with rfl | rfl | rfl | rfl
    · clear hy
      by_cases hx : x = 0
      · have hz : (x != 0) = false := by simp [hx]
        have HX := Lib.hid hx
        clear hx
        go_wp2
        go_round
        case rel => exact ⟨1, by omega, by go_num, fun _ => HX.out, by omega, by omega⟩
        case measure => simp [intOf]
      · have hz : (x != 0) = true := by simp [hx]
        have HX := Lib.hid hx
        clear hx
        go_wp2
        go_ret
        exact ⟨by rw [or3_a HX.out]; rfl, rfl⟩
    · by_cases hx : y = 0
      · have hz : (y != 0) = false := by simp [hx]
        have HX := Lib.hid hx
        clear hx
        go_wp2
        go_round
        case rel => exact ⟨2, by omega, by go_num, fun _ => hy.out.1 (by omega), fun _ => HX.out, by omega⟩
        case measure => simp [intOf]
      · have hz : (y != 0) = true := by simp [hx]
        have HX := Lib.hid hx
        clear hx
        go_wp2
        go_ret
        exact ⟨by rw [or3_b (hy.out.1 (by omega)) HX.out]; rfl, rfl⟩
    · by_cases hx : z = 0
      · have hz : (z != 0) = false := by simp [hx]
        have HX := Lib.hid hx
        clear hx
        go_wp2
        go_round
        case rel => exact ⟨3, by omega, by go_num, fun _ => hy.out.1 (by omega), fun _ => hy.out.2.1 (by omega), fun _ => HX.out⟩
        case measure => simp [intOf]
      · have hz : (z != 0) = true := by simp [hx]
        have HX := Lib.hid hx
        clear hx
        go_wp2
        go_ret
        exact ⟨by rw [or3_c (hy.out.1 (by omega)) (hy.out.2.1 (by omega))]; rfl, rfl⟩
    · go_wp2
      go_ret
      exact ⟨by rw [or3_c (hy.out.1 (by omega)) (hy.out.2.1 (by omega)), hy.out.2.2 (by omega)]; rfl, rfl⟩

theorem or3_ltB (c1 c2 : Int) (A B : List Int) (na nb : Nat) (hA : A.length = na) (hB : B.length = nb) : decide (or3 (cmpI c1 c2) (cmpI (na : Int) (nb : Int)) (cmpL A B) < 0) = ltB (c1, A) (c2, B) := by
  subst hA hB
  unfold or3 orI ltB
  rw [← cmpL_lt A B]
  unfold cmpI
  by_cases h1 : c1 < c2
  · simp [h1]
  · by_cases h2 : c2 < c1
    · have h3 : ¬ c1 = c2 := by omega
      simp [h1, h2, h3]
    · have h3 : c1 = c2 := by omega
      subst h3
      by_cases h4 : A.length < B.length
      · have : (A.length : Int) < (B.length : Int) := by omega
        simp [h4]
      · by_cases h5 : B.length < A.length
        · have h6 : ¬ A.length = B.length := by omega
          simp [h4, h5, h6]
        · have h6 : A.length = B.length := by omega
          simp [h6]

set_option maxRecDepth 100000 in
set_option maxHeartbeats 4000000 in
theorem pref_any (c1 c2 : Int) (ga ca gb cb na nb : Nat) (A B : List Int) (w : World) (hA : A.length = na) (hB : B.length = nb) (hna : na ≤ 1100000) (hnb : nb ≤ 1100000) (hga : ga < w.heap.size) (hgb : gb < w.heap.size)
    (ha : ∀ q z, A[q]? = some z → w.cell? ⟨ga, q, none⟩ = some (.int .i64 z)) (hb : ∀ q z, B[q]? = some z → w.cell? ⟨gb, q, none⟩ = some (.int .i64 z)) :
    Calls Try.prog 95 #[.agg #[.int .i64 c1, .slice (some ⟨ga, 0, none⟩) na ca], .agg #[.int .i64 c2, .slice (some ⟨gb, 0, none⟩) nb cb]] w fun e w' => e = .returned (.bool (ltB (c1, A) (c2, B))) ∧ Below w.heap.size w w' := by
  have Ha := Lib.hid ha
  have Hb := Lib.hid hb
  have HL := Lib.hid (or3_ltB c1 c2 A B na nb hA hB)
  rw [← HL.out]
  have HAB := Lib.hid (And.intro hA hB)
  clear ha hb hA hB
  have hi := cmpI_in c1 c2
  have hi2 := cmpI_in (na : Int) (nb : Int)
  have hi3 := cmpL_in A B
  go_enter Try.func95, Try.ntmps95
  go_wp2_with fail
  go_region_held3 (fun w' => w'.cell? ⟨w.heap.size, 0, none⟩ = some (.int .i64 c1) ∧ w'.cell? ⟨w.heap.size, 1, none⟩ = some (.slice (some ⟨ga, 0, none⟩) na ca) ∧ w'.cell? ⟨w.heap.size + 1, 0, none⟩ = some (.int .i64 c2) ∧ w'.cell? ⟨w.heap.size + 1, 1, none⟩ = some (.slice (some ⟨gb, 0, none⟩) nb cb) ∧ w.heap.size + 1 < w'.heap.size ∧ Below w.heap.size w w') (first | assumption | exact box2p_keep0 _ _ _ _ _ _ _ | exact box2p_drew (by assumption) | exact box2p_box (by assumption))
    (first | (go_at_call 65; refine (cmp_any _ _ _).mono ?_; rintro e w2 ⟨rfl, rfl⟩) | (go_at_call 113; refine (compareS_any ga ca gb cb na nb A B _ HAB.out.1 HAB.out.2 hna hnb (fun q z hz => by rw [(box2p_below (by assumption)).cell (p := ⟨ga, q, none⟩) hga]; exact Ha.out q z hz) (fun q z hz => by rw [(box2p_below (by assumption)).cell (p := ⟨gb, q, none⟩) hgb]; exact Hb.out q z hz)).mono ?_; rintro e w2 ⟨rfl, rfl⟩) | (go_at_call 108; refine (or3_any _ (cmpI c1 c2) (cmpI (na : Int) (nb : Int)) (cmpL A B) _ (by simp [go_sem]) (by simp [go_sem]) (by simp [go_sem])).mono ?_; rintro e w2 ⟨rfl, rfl⟩))
  all_goals
    go_wp2_with fail
    go_ret
    exact ⟨rfl, box2p_below (by assumption)⟩

set_option maxHeartbeats 2000000 in
set_option maxRecDepth 100000 in
/-- slices.Grow of no slice: an empty slice with a block of its own. -/
theorem grow_any (n : Nat) (w : World) (h0 : 0 < n) (hn : n ≤ 1000000) :
    Calls Try.prog 112 #[.slice none 0 0, .int .i64 (n : Int)] w fun e w' => ∃ G : Nat, e = .returned (.slice (some ⟨w.heap.size, 0, none⟩) 0 G) ∧ w'.ownsRow w.heap.size 3 1 (.slice (some ⟨w.heap.size, 0, none⟩) 0 G) 0 [] ∧ Below w.heap.size w w' ∧ w'.heap.size = w.heap.size + 1 := by
  obtain ⟨i3, hi, hz0, hz1, hz2⟩ := info_parts Try.info3
  have hfit : Builtin.nextslicecap (0 + n) 0 * i3.bytes ≤ 281474976710656 := by
    rw [Nat.zero_add]; exact growslice_fits h0 (by rw [hz2]; omega)
  have hr : ∀ ty, (Builtin.append_ #[33, 3] ty #[.slice none 0 0, .int .i64 (n : Int)]).run Try.prog w = .ok (.slice (some ⟨w.heap.size, 0, none⟩) (0 + n) (grownCap w (0 + n) 0 3)) (w.drew.alloc (.cells (([] : List Value).toArray ++ Builtin.zeroCells (Value.int .i64 0).cells n ++ Builtin.zeroCells (Value.int .i64 0).cells (grownCap w (0 + n) 0 3 - (0 + n))) 3)) := fun ty =>
    Lib.run_append_grow_zeros w 33 3 ty 3 i3 (.int .i64 0) .i64 .i64 Try.underlying33 Try.underlying3 hi hz0 none 0 0 [] (run_firstCells_none w.drew i3.size 0 0 0) n h0 (by rw [hz1]; omega) (by omega) (by omega) (by rw [hz2]; omega) hfit
  rw [Nat.zero_add] at hr
  have hGn : n ≤ grownCap w n 0 3 := grownCap_ge w _ _ _
  have hGm := grownCap_le_maxLen w n 0 3 (by unfold maxLen; omega)
  obtain ⟨G, hG⟩ : ∃ G, G = grownCap w n 0 3 := ⟨_, rfl⟩
  rw [← hG] at hr hGn hGm
  obtain ⟨cs, hcs⟩ : ∃ cs, cs = ([] : List Value).toArray ++ Builtin.zeroCells (Value.int .i64 0).cells n ++ Builtin.zeroCells (Value.int .i64 0).cells (G - n) := ⟨_, rfl⟩
  have hcl : cs.size = G := by rw [hcs]; simp [Builtin.zeroCells, Value.cells]; omega
  rw [← hcs] at hr
  have Hcl := Lib.hid hcl
  have HG := Lib.hid (And.intro hGm hG)
  have hG63 : G ≤ 9223372036854775807 := by unfold maxLen at hGm; omega
  clear hcs hG hGm hcl hfit hi hz0 hz1 hz2
  have q0 : (0 : Int) < (n : Int) := by omega
  have q1 : decide ((n : Int) < 0) = false := decide_eq_false (by omega)
  go_enter Try.func112, Try.ntmps112
  go_wp2_with (at_builtin; refine Lib.wpList_append_run _ rfl _ _ _ _ rfl _ _ rfl rfl _ _ (hr _) ?_)
  go_ret
  refine ⟨G, rfl, ⟨rfl, .inr ⟨_, G, cs, rfl, Nat.le_refl _, ?_, Nat.zero_le _, HG.out.1, by rw [Hcl.out, Nat.mul_one], by simp⟩⟩, ?_, by simp⟩
  · have := heap_alloc_new w.drew (.cells cs 3)
    exact this
  · exact ((Below.refl _ _).drew).alloc (Nat.le_refl _) _

end Go.Proofs.Ytjenjdhoblcohaa
