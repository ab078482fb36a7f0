/- Slices of links and stubs compared. -/
import Derived.Test.YtcaoohcfoccedaaX4
namespace Go.Proofs.Ytcaoohcfoccedaa
open Go.RowKit


theorem agg2_ne {a c a' c' : Int} (h : ¬ (a = a' ∧ c = c')) : (Value.agg #[.int .i64 a, .int .i64 c] = .agg #[.int .i64 a', .int .i64 c']) ↔ False := by
  constructor
  · intro e
    simp at e
    exact h e
  · exact False.elim
theorem lk_ext {L M : List Lk} (hl : L.length = M.length) (h : ∀ j, j < L.length → L[j]? = M[j]?) : L = M := by
  apply List.ext_getElem?
  intro i
  by_cases hi : i < L.length
  · exact h i hi
  · rw [List.getElem?_eq_none (by omega), List.getElem?_eq_none (by omega)]
theorem ed_ext {L M : List Ed} (hl : L.length = M.length) (h : ∀ j, j < L.length → L[j]? = M[j]?) : L = M := by
  apply List.ext_getElem?
  intro i
  by_cases hi : i < L.length
  · exact h i hi
  · rw [List.getElem?_eq_none (by omega), List.getElem?_eq_none (by omega)]
theorem all_nextP {P : Nat → Prop} {k : Nat} (h : ∀ j, j < k → P j) (hk : P k) : ∀ j, j < k + 1 → P j := fun j hj => by
  by_cases e : j = k
  · subst e; exact hk
  · exact h j (by omega)

set_option maxRecDepth 100000 in
set_option maxHeartbeats 2000000 in
theorem eqK_any (lo hi n lo' hi' m : Nat) (u v : Value) (K M : List Lk) (w : World) (hK : K.length = n) (hM : M.length = m) (hr : Row 2 w lo hi u n (flat2 K)) (hr' : Row 2 w lo' hi' v m (flat2 M)) :
    Calls Try.prog 61 #[u, v] w fun e w' => e = .returned (.bool (decide (K = M))) ∧ Below w.heap.size w w' := by
  obtain ⟨ad, cp, rfl, hl, hu⟩ := hr.opened
  obtain ⟨ae, cq, rfl, hl', hv⟩ := hr'.opened
  have HU := Lib.hid hu
  have HV := Lib.hid hv
  have HK := Lib.hid hK
  have HM := Lib.hid hM
  clear hr hr' hu hv hK hM
  by_cases hnm : n = m
  rotate_left
  · have hne : Hid (decide (K = M) = false) := Lib.hid (decide_eq_false (fun e => hnm (by rw [← HK.out, ← HM.out, e])))
    have h1 : ((n : Int) != (m : Int)) = true := by simp; omega
    rw [hne.out]
    have Hn := Lib.hid hnm
    clear hnm
    go_enter Try.func61, Try.ntmps61
    go_wp2
    go_ret
    exact ⟨rfl, Below.refl _ _⟩
  · subst hnm
    go_enter Try.func61, Try.ntmps61
    go_wp2
    go_loopw [13] (fun i wr => ∃ k q : Nat, k ≤ n ∧ i = .int .i64 (k : Int) ∧ Hid (∀ j, j < k → K[j]? = M[j]?) ∧ wr = w.drewN q) (fun i _ => n - (intOf i).toNat)
    case atStart => exact ⟨0, 0, Nat.zero_le _, rfl, Lib.hid (fun j hj => absurd hj (Nat.not_lt_zero _)), rfl⟩
    case round =>
      obtain ⟨k, q, hk, rfl, HP, rfl⟩ := hrel
      by_cases hlt : k < n
      · obtain ⟨r, hr⟩ : ∃ r, K[k]? = some r := ⟨K[k]'(by rw [HK.out]; exact hlt), List.getElem?_eq_getElem _⟩
        obtain ⟨r', hr'⟩ : ∃ r, M[k]? = some r := ⟨M[k]'(by rw [HM.out]; exact hlt), List.getElem?_eq_getElem _⟩
        obtain ⟨a, c⟩ := r
        obtain ⟨a', c'⟩ := r'
        obtain ⟨r0, r1⟩ := flat2_at K k _ hr
        obtain ⟨s0, s1⟩ := flat2_at M k _ hr'
        obtain ⟨g, rfl, _, H⟩ := HU.out (by omega)
        obtain ⟨g', rfl, _, H'⟩ := HV.out (by omega)
        have z0 := H _ _ r0
        have y0 := H' _ _ s0
        have z1 := H _ _ r1
        have y1 := H' _ _ s1
        have HL := Lib.hid hr
        have HL' := Lib.hid hr'
        have q0 : (0 : Int) ≤ (k : Int) := by omega
        have q1 : (k : Int) < (n : Int) := by omega
        clear H H' hr hr' r0 s0 r1 s1
        by_cases he : a = a' ∧ c = c'
        · obtain ⟨rfl, rfl⟩ := he
          have Hc : Hid (∀ j, j < k + 1 → K[j]? = M[j]?) := Lib.hid (all_nextP HP.out (by rw [HL.out, HL'.out]))
          go_wp2_with fail
          go_quiet (fail)
          go_wp2_with fail
          go_roundw
          case rel => exact ⟨k + 1, _, by omega, by go_num, Hc, rfl⟩
          case measure => simp [intOf]; omega
        · have hne : Hid (decide (K = M) = false) := Lib.hid (decide_eq_false (fun e => he (by have h1 := HL.out; rw [e, HL'.out] at h1; simp at h1; exact ⟨h1.1.symm, h1.2.symm⟩)))
          by_cases e0 : a = a'
          rotate_left
          · have f1 : (a == a') = false := by simp [e0]
            have He := Lib.hid he
            have He2 := Lib.hid e0
            clear he e0
            go_wp2_with fail
            go_quiet (fail)
            go_wp2_with fail
            go_ret
            exact ⟨by rw [hne.out]; rfl, ⟨rfl, rfl, rfl, Nat.le_refl _, fun _ _ => rfl⟩⟩
          by_cases e1 : c = c'
          · exact absurd (by exact ⟨e0, e1⟩) he
          · have f1 : (c == c') = false := by simp [e1]
            subst e0
            have He := Lib.hid he
            have He2 := Lib.hid e1
            clear he e1
            go_wp2_with fail
            go_quiet (fail)
            go_wp2_with fail
            go_ret
            exact ⟨by rw [hne.out]; rfl, ⟨rfl, rfl, rfl, Nat.le_refl _, fun _ _ => rfl⟩⟩
      · have hge : ¬ ((k : Int) < (n : Int)) := by omega
        obtain rfl : n = k := by omega
        have hy : Hid (decide (K = M) = true) := Lib.hid (decide_eq_true (lk_ext (by rw [HK.out, HM.out]) (fun j hj => HP.out j (by rw [HK.out] at hj; exact hj))))
        go_wp2
        go_ret
        exact ⟨by rw [hy.out]; rfl, ⟨rfl, rfl, rfl, Nat.le_refl _, fun _ _ => rfl⟩⟩

set_option maxRecDepth 100000 in
set_option maxHeartbeats 2000000 in
theorem eqT_any (lo hi n lo' hi' m : Nat) (u v : Value) (K M : List Ed) (w : World) (hK : K.length = n) (hM : M.length = m) (hr : Row 3 w lo hi u n (flat K)) (hr' : Row 3 w lo' hi' v m (flat M)) :
    Calls Try.prog 62 #[u, v] w fun e w' => e = .returned (.bool (decide (K = M))) ∧ Below w.heap.size w w' := by
  obtain ⟨ad, cp, rfl, hl, hu⟩ := hr.opened
  obtain ⟨ae, cq, rfl, hl', hv⟩ := hr'.opened
  have HU := Lib.hid hu
  have HV := Lib.hid hv
  have HK := Lib.hid hK
  have HM := Lib.hid hM
  clear hr hr' hu hv hK hM
  by_cases hnm : n = m
  rotate_left
  · have hne : Hid (decide (K = M) = false) := Lib.hid (decide_eq_false (fun e => hnm (by rw [← HK.out, ← HM.out, e])))
    have h1 : ((n : Int) != (m : Int)) = true := by simp; omega
    rw [hne.out]
    have Hn := Lib.hid hnm
    clear hnm
    go_enter Try.func62, Try.ntmps62
    go_wp2
    go_ret
    exact ⟨rfl, Below.refl _ _⟩
  · subst hnm
    go_enter Try.func62, Try.ntmps62
    go_wp2
    go_loopw [13] (fun i wr => ∃ k q : Nat, k ≤ n ∧ i = .int .i64 (k : Int) ∧ Hid (∀ j, j < k → K[j]? = M[j]?) ∧ wr = w.drewN q) (fun i _ => n - (intOf i).toNat)
    case atStart => exact ⟨0, 0, Nat.zero_le _, rfl, Lib.hid (fun j hj => absurd hj (Nat.not_lt_zero _)), rfl⟩
    case round =>
      obtain ⟨k, q, hk, rfl, HP, rfl⟩ := hrel
      by_cases hlt : k < n
      · obtain ⟨r, hr⟩ : ∃ r, K[k]? = some r := ⟨K[k]'(by rw [HK.out]; exact hlt), List.getElem?_eq_getElem _⟩
        obtain ⟨r', hr'⟩ : ∃ r, M[k]? = some r := ⟨M[k]'(by rw [HM.out]; exact hlt), List.getElem?_eq_getElem _⟩
        obtain ⟨a, b, c⟩ := r
        obtain ⟨a', b', c'⟩ := r'
        obtain ⟨r0, r1, r2⟩ := flat_at K k _ hr
        obtain ⟨s0, s1, s2⟩ := flat_at M k _ hr'
        obtain ⟨g, rfl, _, H⟩ := HU.out (by omega)
        obtain ⟨g', rfl, _, H'⟩ := HV.out (by omega)
        have z0 := H _ _ r0
        have y0 := H' _ _ s0
        have z1 := H _ _ r1
        have y1 := H' _ _ s1
        have z2 := H _ _ r2
        have y2 := H' _ _ s2
        have HL := Lib.hid hr
        have HL' := Lib.hid hr'
        have q0 : (0 : Int) ≤ (k : Int) := by omega
        have q1 : (k : Int) < (n : Int) := by omega
        clear H H' hr hr' r0 s0 r1 s1 r2 s2
        by_cases he : a = a' ∧ b = b' ∧ c = c'
        · obtain ⟨rfl, rfl, rfl⟩ := he
          have Hc : Hid (∀ j, j < k + 1 → K[j]? = M[j]?) := Lib.hid (all_nextP HP.out (by rw [HL.out, HL'.out]))
          go_wp2_with fail
          go_quiet (fail)
          go_wp2_with fail
          go_roundw
          case rel => exact ⟨k + 1, _, by omega, by go_num, Hc, rfl⟩
          case measure => simp [intOf]; omega
        · have hne : Hid (decide (K = M) = false) := Lib.hid (decide_eq_false (fun e => he (by have h1 := HL.out; rw [e, HL'.out] at h1; simp at h1; exact ⟨h1.1.symm, h1.2.1.symm, h1.2.2.symm⟩)))
          by_cases e0 : a = a'
          rotate_left
          · have f1 : (a == a') = false := by simp [e0]
            have He := Lib.hid he
            have He2 := Lib.hid e0
            clear he e0
            go_wp2_with fail
            go_quiet (fail)
            go_wp2_with fail
            go_ret
            exact ⟨by rw [hne.out]; rfl, ⟨rfl, rfl, rfl, Nat.le_refl _, fun _ _ => rfl⟩⟩
          by_cases e1 : b = b'
          rotate_left
          · have f1 : (b == b') = false := by simp [e1]
            subst e0
            have He := Lib.hid he
            have He2 := Lib.hid e1
            clear he e1
            go_wp2_with fail
            go_quiet (fail)
            go_wp2_with fail
            go_ret
            exact ⟨by rw [hne.out]; rfl, ⟨rfl, rfl, rfl, Nat.le_refl _, fun _ _ => rfl⟩⟩
          by_cases e2 : c = c'
          · exact absurd (by exact ⟨e0, e1, e2⟩) he
          · have f1 : (c == c') = false := by simp [e2]
            subst e0
            subst e1
            have He := Lib.hid he
            have He2 := Lib.hid e2
            clear he e2
            go_wp2_with fail
            go_quiet (fail)
            go_wp2_with fail
            go_ret
            exact ⟨by rw [hne.out]; rfl, ⟨rfl, rfl, rfl, Nat.le_refl _, fun _ _ => rfl⟩⟩
      · have hge : ¬ ((k : Int) < (n : Int)) := by omega
        obtain rfl : n = k := by omega
        have hy : Hid (decide (K = M) = true) := Lib.hid (decide_eq_true (ed_ext (by rw [HK.out, HM.out]) (fun j hj => HP.out j (by rw [HK.out] at hj; exact hj))))
        go_wp2
        go_ret
        exact ⟨by rw [hy.out]; rfl, ⟨rfl, rfl, rfl, Nat.le_refl _, fun _ _ => rfl⟩⟩

end Go.Proofs.Ytcaoohcfoccedaa
