/- within of the laws. -/
import Derived.Test.YtjenjdhoblcohaaWj
import Derived.Test.YtjenjdhoblcohaaReg
namespace Go.Proofs.Ytjenjdhoblcohaa
open Go.RowKit

/-- Whether a list holds a number. -/
def hasB (Z : List Int) (x : Int) : Bool := Z.any fun z => z == x
theorem hasB_yes {Z : List Int} {x : Int} {i : Nat} (h : Z[i]? = some x) : hasB Z x = true := by
  unfold hasB
  exact List.any_eq_true.2 ⟨x, List.mem_of_getElem? h, by simp⟩
theorem hasB_no {Z : List Int} {x : Int} (h : ∀ (i : Nat) z, Z[i]? = some z → z ≠ x) : hasB Z x = false := by
  unfold hasB
  rw [List.any_eq_false]
  intro z hz
  obtain ⟨i, hi⟩ := List.mem_iff_getElem?.1 hz
  simpa using h i z hi
set_option maxRecDepth 100000 in
set_option maxHeartbeats 2400000 in
theorem has_any (Z : List Int) (lo hi n : Nat) (v : Value) (x : Int) (w : World) (hr : Row 1 w lo hi v n Z) :
    Calls Try.prog 55 #[v, .int .i64 x] w fun e w' => e = .returned (.bool (hasB Z x)) ∧ w = w' := by
  have hZl : Z.length = n := by have := hr.1; omega
  obtain ⟨ad, cp, rfl, hn, hc⟩ := hr.opened
  have HC := Lib.hid hc
  have HZ := Lib.hid hZl
  clear hc hr hZl
  go_enter Try.func55, Try.ntmps55
  go_wp2
  go_loop [5] (fun i => ∃ k : Nat, k ≤ n ∧ i = .int .i64 (k : Int) ∧ Hid (∀ (i : Nat) z, i < k → Z[i]? = some z → z ≠ x)) (fun i => n - (intOf i).toNat)
  case atStart => exact ⟨0, Nat.zero_le _, rfl, fun i z hi => absurd hi (Nat.not_lt_zero _)⟩
  case round =>
    obtain ⟨k, hk, rfl, hR⟩ := hrel
    by_cases hlt : k < n
    · obtain ⟨g, rfl, hg, hcell⟩ := HC.out (by omega)
      obtain ⟨z, hz⟩ : ∃ z, Z[k]? = some z := ⟨Z[k]'(by rw [HZ.out]; exact hlt), List.getElem?_eq_getElem _⟩
      have z0 : w.cell? ⟨g, k, none⟩ = some (.int .i64 z) := hcell _ _ hz
      have q0 : (0 : Int) ≤ (k : Int) := by omega
      have q1 : (k : Int) < (n : Int) := by omega
      have Hz := Lib.hid hz
      clear hcell hz
      by_cases h : z = x
      · have e1 : (z == x) = true := by simp [h]
        have e2 : Hid (hasB Z x = true) := by show _ = _; rw [← h]; exact hasB_yes Hz.out
        clear h
        go_wp2
        go_ret
        exact ⟨by rw [e2.out]; rfl, rfl⟩
      · have e1 : (z == x) = false := by simp [h]
        have HE : Hid (∀ (i : Nat) z, i < k + 1 → Z[i]? = some z → z ≠ x) := fun i y hi hy => by
          by_cases e : i = k
          · subst e; rw [Hz.out] at hy; cases hy; exact h
          · exact hR.out i y (by omega) hy
        clear h hR
        go_wp2
        go_round
        case rel => exact ⟨k + 1, by omega, by go_num, HE⟩
        case measure => simp [intOf]; omega
    · obtain rfl : n = k := by omega
      have hge : ¬ ((n : Int) < (n : Int)) := by omega
      have e2 : Hid (hasB Z x = false) := by
        show _ = _
        exact hasB_no fun i z hi => hR.out i z (by obtain ⟨h, _⟩ := List.getElem?_eq_some_iff.1 hi; rw [HZ.out] at h; exact h) hi
      clear hR
      go_wp2
      go_ret
      exact ⟨by rw [e2.out]; rfl, rfl⟩
def linkB (N : Int) (L : List Ed) : Bool := gok N L && !(hasB (distL N L 0) 1000000)
theorem sub_len : ∀ (l m : List Int), l.Pairwise (fun a b => a ≠ b) → (∀ x ∈ l, x ∈ m) → l.length ≤ m.length
  | [], _, _, _ => Nat.zero_le _
  | a :: l, m, hp, hm => by
    rw [List.pairwise_cons] at hp
    have ha := hm a (List.mem_cons_self)
    have := sub_len l (m.erase a) hp.2 (fun x hx => (List.mem_erase_of_ne (fun e => hp.1 x hx e.symm)).2 (hm x (List.mem_cons_of_mem _ hx)))
    rw [List.length_erase_of_mem ha] at this
    have h1 : 0 < m.length := List.length_pos_of_mem ha
    simp only [List.length_cons]; omega
theorem link_found {N : Int} {L : List Ed} {P : List Tr} (hG : gok N L = true) (h : Found L 0 P) : ((P.length : Int) == N) = linkB N L := by
  have hN := gok_parts hG
  have hs : (0 : Int) ≤ 0 ∧ (0 : Int) < N := ⟨Int.le_refl _, by omega⟩
  obtain ⟨M, hM⟩ : ∃ M : Nat, N = (M : Int) := ⟨N.toNat, by omega⟩
  have hcnt := h.count hG hs
  have hdl : distL N L 0 = tabI M (dsT N L 0) := by
    subst hM
    unfold distL
    rw [show distN (M : Int) L 0 = M from distN_yes (s := 0) hG (by omega)]
    rfl
  unfold linkB
  rw [hG, Bool.true_and, hdl]
  by_cases hall : ∀ i : Nat, i < M → ∃ t ∈ P, lastN t = (i : Int)
  · have h1 : M ≤ P.length := by
      have := sub_len ((List.range M).map fun (i : Nat) => (i : Int)) (P.map lastN) (by
        rw [List.pairwise_map]
        exact (List.nodup_range).imp (fun hne e => hne (by omega))) (fun x hx => by
        obtain ⟨i, hi, rfl⟩ := List.mem_map.1 hx
        obtain ⟨t, ht, e⟩ := hall i (List.mem_range.1 hi)
        exact List.mem_map.2 ⟨t, ht, e⟩)
      simpa using this
    have h2 : hasB (tabI M (dsT N L 0)) 1000000 = false := hasB_no fun i z hz => by
      have hi : i < M := by obtain ⟨h, _⟩ := List.getElem?_eq_some_iff.1 hz; rwa [tabI_len] at h
      rw [tabI_at _ hi] at hz
      obtain ⟨t, ht, e⟩ := hall i hi
      have h3 := h.dis hG hs ht
      rw [e] at h3
      have h4 := h.cost hG hs ht
      have := Option.some.inj hz
      omega
    rw [h2]
    simp; omega
  · have hall' : ∃ i : Nat, i < M ∧ ∀ t ∈ P, lastN t ≠ (i : Int) := by
      refine Classical.byContradiction fun hn => hall fun i hi => Classical.byContradiction fun hn2 => hn ⟨i, hi, fun t ht e => hn2 ⟨t, ht, e⟩⟩
    obtain ⟨i, hi, hne⟩ := hall'
    have h2 : hasB (tabI M (dsT N L 0)) 1000000 = true := hasB_yes (i := i) (by rw [tabI_at _ hi, h.far hG hne]; rfl)
    have h1 : P.length + 1 ≤ M := by
      have := nodup_bound M ((i : Int) :: P.map lastN) (List.pairwise_cons.2 ⟨fun x hx => by
        obtain ⟨t, ht, rfl⟩ := List.mem_map.1 hx
        exact fun e => hne t ht e.symm, List.pairwise_map.2 h.dist⟩) (fun x hx => by
        rcases List.mem_cons.1 hx with rfl | hx
        · omega
        · obtain ⟨t, ht, rfl⟩ := List.mem_map.1 hx
          have := ((h.best t ht).1.bounds hG hs).2.2.2.1
          omega)
      simpa using this
    rw [h2]
    simp; omega

set_option maxRecDepth 100000 in
set_option maxHeartbeats 2400000 in
theorem within_any (Z : List Int) (lo hi n : Nat) (v : Value) (x : Int) (w : World) (hr : Row 1 w lo hi v n Z) :
    Calls Try.prog 41 #[v, .int .i64 x] w fun e w' => e = .returned (.bool (hasB Z x)) ∧ w = w' := by
  have hZl : Z.length = n := by have := hr.1; omega
  obtain ⟨ad, cp, rfl, hn, hc⟩ := hr.opened
  have HC := Lib.hid hc
  have HZ := Lib.hid hZl
  clear hc hr hZl
  go_enter Try.func41, Try.ntmps41
  go_wp2
  go_loop [5] (fun i => ∃ k : Nat, k ≤ n ∧ i = .int .i64 (k : Int) ∧ Hid (∀ (i : Nat) z, i < k → Z[i]? = some z → z ≠ x)) (fun i => n - (intOf i).toNat)
  case atStart => exact ⟨0, Nat.zero_le _, rfl, fun i z hi => absurd hi (Nat.not_lt_zero _)⟩
  case round =>
    obtain ⟨k, hk, rfl, hR⟩ := hrel
    by_cases hlt : k < n
    · obtain ⟨g, rfl, hg, hcell⟩ := HC.out (by omega)
      obtain ⟨z, hz⟩ : ∃ z, Z[k]? = some z := ⟨Z[k]'(by rw [HZ.out]; exact hlt), List.getElem?_eq_getElem _⟩
      have z0 : w.cell? ⟨g, k, none⟩ = some (.int .i64 z) := hcell _ _ hz
      have q0 : (0 : Int) ≤ (k : Int) := by omega
      have q1 : (k : Int) < (n : Int) := by omega
      have Hz := Lib.hid hz
      clear hcell hz
      by_cases h : z = x
      · have e1 : (z == x) = true := by simp [h]
        have e2 : Hid (hasB Z x = true) := by show _ = _; rw [← h]; exact hasB_yes Hz.out
        clear h
        go_wp2
        go_ret
        exact ⟨by rw [e2.out]; rfl, rfl⟩
      · have e1 : (z == x) = false := by simp [h]
        have HE : Hid (∀ (i : Nat) z, i < k + 1 → Z[i]? = some z → z ≠ x) := fun i y hi hy => by
          by_cases e : i = k
          · subst e; rw [Hz.out] at hy; cases hy; exact h
          · exact hR.out i y (by omega) hy
        clear h hR
        go_wp2
        go_round
        case rel => exact ⟨k + 1, by omega, by go_num, HE⟩
        case measure => simp [intOf]; omega
    · obtain rfl : n = k := by omega
      have hge : ¬ ((n : Int) < (n : Int)) := by omega
      have e2 : Hid (hasB Z x = false) := by
        show _ = _
        exact hasB_no fun i z hi => hR.out i z (by obtain ⟨h, _⟩ := List.getElem?_eq_some_iff.1 hi; rw [HZ.out] at h; exact h) hi
      clear hR
      go_wp2
      go_ret
      exact ⟨by rw [e2.out]; rfl, rfl⟩

end Go.Proofs.Ytjenjdhoblcohaa
