/- The end of a trail; two lists of nodes compared. -/
import Derived.Test.YtnpdbieadjgghaaGreatW6
import Derived.Test.YtnpdbieadjgghaaGreatMd
namespace Go.Proofs.YtnpdbieadjgghaaGreat
open Go.RowKit


set_option maxHeartbeats 1000000 in
theorem end_any (c z : Int) (g m cap : Nat) (w : World) (hm : m ≤ 1100000) (hg : g < w.heap.size) (hz : w.cell? ⟨g, m, none⟩ = some (.int .i64 z)) :
    Calls Tryz.prog 74 #[.agg #[.int .i64 c, .slice (some ⟨g, 0, none⟩) (m + 1) cap]] w fun e w' => e = .returned (.int .i64 z) ∧ Below w.heap.size w w' := by
  have k0 : (w.alloc (.cells #[.int .i64 c, .slice (some ⟨g, 0, none⟩) (m + 1) cap] 120)).cell? ⟨g, m, none⟩ = some (.int .i64 z) := by rw [old_box hg]; exact hz
  have q0 : (0 : Int) ≤ (m : Int) := by omega
  have q1 : (m : Int) < (m : Int) + 1 := by omega
  go_enter Tryz.func74, Tryz.ntmps74
  go_wp2
  go_ret
  exact ⟨rfl, by go_grown⟩

/-- What slices.Compare says of two lists. -/
def cmpL : List Int → List Int → Int
  | [], [] => 0
  | [], _ :: _ => -1
  | _ :: _, [] => 1
  | a :: us, b :: vs => if cmpI a b = 0 then cmpL us vs else cmpI a b
theorem cmpL_in : ∀ a b, -1 ≤ cmpL a b ∧ cmpL a b ≤ 1
  | [], [] => by simp [cmpL]
  | [], _ :: _ => by simp [cmpL]
  | _ :: _, [] => by simp [cmpL]
  | a :: us, b :: vs => by
    unfold cmpL
    split
    · exact cmpL_in us vs
    · exact cmpI_in a b
theorem cmpL_lt : ∀ a b, decide (cmpL a b < 0) = lexB a b
  | [], [] => by simp [cmpL, lexB]
  | [], _ :: _ => by simp [cmpL, lexB]
  | _ :: _, [] => by simp [cmpL, lexB]
  | a :: us, b :: vs => by
    unfold cmpL lexB
    unfold cmpI
    by_cases h1 : a < b
    · simp [h1]
    · by_cases h2 : b < a
      · have : ¬ a = b := by omega
        simp [h1, h2, this]
      · have : a = b := by omega
        subst this
        simp [cmpL_lt us vs]
theorem cmpL_drop {A B : List Int} {k : Nat} {x y : Int} (ha : A[k]? = some x) (hb : B[k]? = some y) : cmpL (A.drop k) (B.drop k) = if cmpI x y = 0 then cmpL (A.drop (k + 1)) (B.drop (k + 1)) else cmpI x y := by
  rw [List.drop_eq_getElem_cons (List.getElem?_eq_some_iff.1 ha).1, List.drop_eq_getElem_cons (List.getElem?_eq_some_iff.1 hb).1, (List.getElem?_eq_some_iff.1 ha).2, (List.getElem?_eq_some_iff.1 hb).2]
  rfl

theorem cmpL_l {A B : List Int} {k : Nat} (h1 : k < A.length) (h2 : B.length ≤ k) : cmpL (A.drop k) (B.drop k) = 1 := by
  have e1 : B.drop k = [] := List.drop_of_length_le h2
  have e2 := List.drop_eq_getElem_cons h1
  rw [e1, e2]; simp [cmpL]
theorem cmpL_r {A B : List Int} {k : Nat} (h1 : k < B.length) (h2 : A.length ≤ k) : cmpL (A.drop k) (B.drop k) = -1 := by
  have e1 : A.drop k = [] := List.drop_of_length_le h2
  have e2 := List.drop_eq_getElem_cons h1
  rw [e1, e2]; simp [cmpL]
theorem cmpL_e {A B : List Int} {k : Nat} (h1 : B.length ≤ k) (h2 : A.length ≤ k) : cmpL (A.drop k) (B.drop k) = 0 := by
  have e1 : A.drop k = [] := List.drop_of_length_le h2
  have e2 : B.drop k = [] := List.drop_of_length_le h1
  rw [e1, e2]; simp [cmpL]

set_option maxRecDepth 100000 in
set_option maxHeartbeats 2000000 in
theorem compareS_any (ga ca gb cb : Nat) (na nb : Nat) (A B : List Int) (w : World) (hA : A.length = na) (hB : B.length = nb) (hna : na ≤ 1100000) (hnb : nb ≤ 1100000)
    (ha : ∀ q z, A[q]? = some z → w.cell? ⟨ga, q, none⟩ = some (.int .i64 z)) (hb : ∀ q z, B[q]? = some z → w.cell? ⟨gb, q, none⟩ = some (.int .i64 z)) :
    Calls Tryz.prog 109 #[.slice (some ⟨ga, 0, none⟩) na ca, .slice (some ⟨gb, 0, none⟩) nb cb] w fun e w' => e = .returned (.int .i64 (cmpL A B)) ∧ w = w' := by
  have HA := Lib.hid hA
  have HB := Lib.hid hB
  have Ha := Lib.hid ha
  have Hb := Lib.hid hb
  clear hA hB ha hb
  go_enter Tryz.func109, Tryz.ntmps109
  go_wp2
  go_loop [11] (fun i => ∃ k : Nat, k ≤ na ∧ k ≤ nb ∧ i = .int .i64 (k : Int) ∧ Hid (cmpL A B = cmpL (A.drop k) (B.drop k))) (fun i => na - (intOf i).toNat)
  case atStart => exact ⟨0, Nat.zero_le _, Nat.zero_le _, rfl, rfl⟩
  case round =>
    obtain ⟨k, hk, hkb, rfl, hC⟩ := hrel
    by_cases hlt : k < na
    · obtain ⟨x, hx⟩ : ∃ x, A[k]? = some x := ⟨A[k]'(by rw [HA.out]; exact hlt), List.getElem?_eq_getElem _⟩
      have z0 := Ha.out _ _ hx
      have q0 : (0 : Int) ≤ (k : Int) := by omega
      have q1 : (k : Int) < (na : Int) := by omega
      by_cases hlb : k < nb
      · obtain ⟨y, hy⟩ : ∃ y, B[k]? = some y := ⟨B[k]'(by rw [HB.out]; exact hlb), List.getElem?_eq_getElem _⟩
        have z1 := Hb.out _ _ hy
        have hD := cmpL_drop hx hy
        have q2 : (k : Int) < (nb : Int) := by omega
        have q3 : decide ((nb : Int) ≤ (k : Int)) = false := decide_eq_false (by omega)
        by_cases hc : cmpI x y = 0
        · have HC : Hid (cmpL A B = cmpL (A.drop (k + 1)) (B.drop (k + 1))) := by show _ = _; rw [hC.out, hD, if_pos hc]
          have hce : (cmpI x y != 0) = false := by simp [hc]
          clear hc hD hx hy hC
          go_wp2_with (go_at_call 99; refine (cmp_any _ _ _).mono ?_; rintro e w' ⟨rfl, rfl⟩)
          go_round
          case rel => exact ⟨k + 1, by omega, by omega, by go_num, HC⟩
          case measure => simp [intOf]; omega
        · have HC : Hid (cmpL A B = cmpI x y) := by show _ = _; rw [hC.out, hD, if_neg hc]
          have hce : (cmpI x y != 0) = true := by simp [hc]
          clear hc hD hx hy hC
          go_wp2_with (go_at_call 99; refine (cmp_any _ _ _).mono ?_; rintro e w' ⟨rfl, rfl⟩)
          go_ret
          exact ⟨by rw [HC.out]; rfl, rfl⟩
      · have hge : (nb : Int) ≤ (k : Int) := by omega
        have HC : Hid (cmpL A B = 1) := by
          show _ = _
          rw [hC.out, cmpL_l (List.getElem?_eq_some_iff.1 hx).1 (by rw [HB.out]; omega)]
        clear hx hC
        go_wp2
        go_ret
        exact ⟨by rw [HC.out]; rfl, rfl⟩
    · have hge : ¬ ((k : Int) < (na : Int)) := by omega
      obtain rfl : k = na := by omega
      by_cases hlb : k < nb
      · have HC : Hid (cmpL A B = -1) := by
          show _ = _
          rw [hC.out, cmpL_r (by rw [HB.out]; exact hlb) (by rw [HA.out]; exact Nat.le_refl _)]
        have q2 : (k : Int) < (nb : Int) := by omega
        clear hC
        go_wp2
        go_ret
        exact ⟨by rw [HC.out]; rfl, rfl⟩
      · obtain rfl : k = nb := by omega
        have HC : Hid (cmpL A B = 0) := by
          show _ = _
          rw [hC.out, cmpL_e (by rw [HB.out]; exact Nat.le_refl _) (by rw [HA.out]; exact Nat.le_refl _)]
        clear hC
        go_wp2
        go_ret
        exact ⟨by rw [HC.out]; rfl, rfl⟩

end Go.Proofs.YtnpdbieadjgghaaGreat
