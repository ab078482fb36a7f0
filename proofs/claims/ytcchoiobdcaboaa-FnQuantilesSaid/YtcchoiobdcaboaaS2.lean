/- Whether a histogram is valid, by both. -/
import Derived.Test.YtcchoiobdcaboaaS1
import Derived.Test.YtcchoiobdcaboaaPa
namespace Go.Proofs.Ytcchoiobdcaboaa
open Go.RowKit


theorem ret_bool {a b : Bool} (h : a = b) : Ending.returned (.bool a) = .returned (.bool b) := by rw [h]
theorem rlo_nat {k : Nat} (h : k < 21) : rlo (k : Int) = blo k ∧ rhi (k : Int) = bhi k := by
  unfold rlo rhi
  rw [if_pos (by omega), if_pos (by omega), Int.toNat_natCast]
  exact ⟨rfl, rfl⟩
theorem hk_len {C : List Int} {t : Int} (h : ¬ C.length = 21) : hkB C t = false := by unfold hkB; rw [decide_eq_false h]; rfl
theorem hk_bad {C : List Int} {t : Int} {k : Nat} (hk : k < 21) (h : vB (cAt C k) = false) : hkB C t = false := by
  unfold hkB
  rw [cOk_no h hk, Bool.false_and, Bool.and_false]
theorem hk_end {C : List Int} {t a b : Int} (hl : C.length = 21) (h : a = loS C 21 ∧ b = hiS C 21 ∧ cOk C 21 = true) : hkB C t = inB t a b := by
  obtain ⟨rfl, rfl, h3⟩ := h
  unfold hkB inB
  rw [decide_eq_true hl, h3, Bool.true_and, Bool.true_and]
/-- What is summed up in k rounds. -/
def Sums (C : List Int) (k : Nat) (a b : Int) : Prop := a = loS C k ∧ b = hiS C k ∧ cOk C k = true
theorem Sums.start (C : List Int) : Sums C 0 0 0 := ⟨rfl, rfl, rfl⟩
theorem Sums.next {C : List Int} {k : Nat} {a b z : Int} (h : Sums C k a b) (hk : k < 21) (hz : z = cAt C k) (hv : vB z = true) :
    Sums C (k + 1) (a + blo k * z) (b + bhi k * z) ∧ (0 ≤ blo k * z ∧ blo k * z ≤ 1000000000000) ∧ (0 ≤ bhi k * z ∧ bhi k * z ≤ 1000000000000) ∧ 0 ≤ a + blo k * z ∧ a + blo k * z ≤ 21000000000000 ∧ 0 ≤ b + bhi k * z ∧ b + bhi k * z ≤ 21000000000000 := by
  subst hz
  obtain ⟨rfl, rfl, h3⟩ := h
  have hc : cOk C (k + 1) = true := by rw [cOk, h3, hv]; rfl
  obtain ⟨⟨a, b, c⟩, _⟩ := S_in (k := k + 1) (by omega) hc
  rw [loS, hiS] at *
  have hv' := vB_iff.1 hv
  obtain ⟨l0, l1, l2⟩ := blo_in hk
  have m1 := mul_in l0 (by omega) hv'.1 hv'.2
  have m2 := mul_in (a := bhi k) (by omega) l2 hv'.1 hv'.2
  refine ⟨⟨by rw [loS], by rw [hiS], hc⟩, m1, m2, by omega, ?_, by omega, ?_⟩
  · push_cast at c; omega
  · push_cast at c; omega

set_option maxRecDepth 100000 in
set_option maxHeartbeats 4000000 in
theorem shok_any (lo hi n : Nat) (v : Value) (t : Int) (C : List Int) (w : World) (hr : Row 1 w lo hi v n C) (hh : hi ≤ w.heap.size) (_ht : I64 t) :
    Calls Try.prog 30 #[.agg #[v, .int .i64 t]] w fun e w' => e = .returned (.bool (hkB C t)) ∧ Below w.heap.size w w' := by
  have hl : C.length = n := by have := hr.1; omega
  obtain ⟨ad, cp, rfl, hn, hc⟩ := hr.opened
  clear hr
  by_cases h21 : n = 21
  case neg =>
    rw [hk_len (by omega)]
    have hne : ((n : Int) == 21) = false := by simp; omega
    go_enter Try.func30, Try.ntmps30
    go_wp2
    go_ret
    exact ⟨rfl, by go_grown⟩
  case pos =>
  subst h21
  obtain ⟨g, rfl, hg, hcell⟩ := hc (by omega)
  have HL := Lib.hid hl
  clear hc hl
  have HCELL : Hid (∀ q z, C[q]? = some z → (w.alloc (.cells #[.slice (some ⟨g, 0, none⟩) 21 cp, .int .i64 t] 27)).cell? ⟨g, q, none⟩ = some (.int .i64 z)) := fun q z hz => by rw [old_box (by omega)]; exact hcell q z hz
  have hb0 : (w.alloc (.cells #[.slice (some ⟨g, 0, none⟩) 21 cp, .int .i64 t] 27)).cell? ⟨w.heap.size, 0, none⟩ = some (.slice (some ⟨g, 0, none⟩) 21 cp) := by rw [new_at rfl]; rfl
  have hb1 : (w.alloc (.cells #[.slice (some ⟨g, 0, none⟩) 21 cp, .int .i64 t] 27)).cell? ⟨w.heap.size, 1, none⟩ = some (.int .i64 t) := by rw [new_at rfl]; rfl
  have HB : Hid (Below w.heap.size w (w.alloc (.cells #[.slice (some ⟨g, 0, none⟩) 21 cp, .int .i64 t] 27))) := (Below.refl _ _).alloc (Nat.le_refl _) _
  clear hcell
  go_enter Try.func30, Try.ntmps30
  go_wp2
  generalize (w.alloc (.cells #[.slice (some ⟨g, 0, none⟩) 21 cp, .int .i64 t] 27)) = w1 at *
  go_loop [3, 4, 5] (fun s m i => ∃ (k : Nat) (a b : Int), k ≤ 21 ∧ i = .int .i64 (k : Int) ∧ s = .int .i64 a ∧ m = .int .i64 b ∧ 0 ≤ a ∧ a ≤ 21000000000000 ∧ 0 ≤ b ∧ b ≤ 21000000000000 ∧ Hid (Sums C k a b)) (fun _ _ i => 21 - (intOf i).toNat)
  case atStart => exact ⟨0, 0, 0, by omega, rfl, rfl, rfl, by omega, by omega, by omega, by omega, Sums.start C⟩
  case round =>
    obtain ⟨k, a, b, hk, rfl, rfl, rfl, ha0, ha1, hb0', hb1', hS⟩ := hrel
    by_cases hlt : k < 21
    case neg =>
      obtain rfl : k = 21 := by omega
      have E : Hid (hkB C t = inB t a b) := hk_end HL.out hS.out
      go_wp2_with (go_at_call 54; refine (in_any _ _ _ _).mono ?_; rintro e w2 ⟨rfl, rfl⟩)
      go_ret
      exact ⟨ret_bool E.out.symm, HB.out⟩
    case pos =>
    have hq : (k : Int) < 21 := by omega
    obtain ⟨z, hz⟩ : ∃ z, z = cAt C k := ⟨_, rfl⟩
    have d0 : w1.cell? ⟨g, k, none⟩ = some (.int .i64 z) := HCELL.out k z (by rw [hz]; exact cAt_some (by rw [HL.out]; omega))
    cases hv : vB z with
    | false =>
      have E : Hid (hkB C t = false) := hk_bad (k := k) hlt (by rw [← hz]; exact hv)
      clear hz hS
      go_wp2_with (first | (go_at_call 54; refine (in_any _ 0 1000000 _).mono ?_; rw [inB_v, hv]; rintro e w2 ⟨rfl, rfl⟩) | (go_at_call 27; refine (sbr_any _ _).mono ?_; rw [hr1, hr2]; rintro e w3 ⟨rfl, rfl⟩))
      go_ret
      exact ⟨ret_bool E.out.symm, HB.out⟩
    | true =>
      obtain ⟨hS2, ⟨p0, p1⟩, ⟨p2, p3⟩, s0, s1, s2, s3⟩ := hS.out.next hlt hz hv
      have hvv := vB_iff.1 hv
      obtain ⟨v0, v1⟩ := hvv
      obtain ⟨l0, l1, l2⟩ := blo_in hlt
      obtain ⟨hr1, hr2⟩ := rlo_nat hlt
      generalize blo k = L at *
      generalize bhi k = H at *
      have HS2 := Lib.hid hS2
      clear hS2 hS hz
      go_wp2_with (first | (go_at_call 54; refine (in_any _ 0 1000000 _).mono ?_; rw [inB_v, hv]; rintro e w2 ⟨rfl, rfl⟩) | (go_at_call 27; refine (sbr_any _ _).mono ?_; rw [hr1, hr2]; rintro e w3 ⟨rfl, rfl⟩))
      go_round
      case rel => exact ⟨k + 1, _, _, by omega, by go_num, rfl, rfl, s0, s1, s2, s3, HS2⟩
      case measure => simp [intOf]; omega

set_option maxRecDepth 100000 in
set_option maxHeartbeats 4000000 in
theorem ihok_any (lo hi n : Nat) (v : Value) (t : Int) (C : List Int) (w : World) (hr : Row 1 w lo hi v n C) (hh : hi ≤ w.heap.size) (_ht : I64 t) :
    Calls Try.prog 32 #[.agg #[v, .int .i64 t]] w fun e w' => e = .returned (.bool (hkB C t)) ∧ Below w.heap.size w w' := by
  have hl : C.length = n := by have := hr.1; omega
  obtain ⟨ad, cp, rfl, hn, hc⟩ := hr.opened
  clear hr
  by_cases h21 : n = 21
  case neg =>
    rw [hk_len (by omega)]
    have hne : ((n : Int) == 21) = false := by simp; omega
    go_enter Try.func32, Try.ntmps32
    go_wp2
    go_ret
    exact ⟨rfl, by go_grown⟩
  case pos =>
  subst h21
  obtain ⟨g, rfl, hg, hcell⟩ := hc (by omega)
  have HL := Lib.hid hl
  clear hc hl
  have HCELL : Hid (∀ q z, C[q]? = some z → (w.alloc (.cells #[.slice (some ⟨g, 0, none⟩) 21 cp, .int .i64 t] 27)).cell? ⟨g, q, none⟩ = some (.int .i64 z)) := fun q z hz => by rw [old_box (by omega)]; exact hcell q z hz
  have hb0 : (w.alloc (.cells #[.slice (some ⟨g, 0, none⟩) 21 cp, .int .i64 t] 27)).cell? ⟨w.heap.size, 0, none⟩ = some (.slice (some ⟨g, 0, none⟩) 21 cp) := by rw [new_at rfl]; rfl
  have hb1 : (w.alloc (.cells #[.slice (some ⟨g, 0, none⟩) 21 cp, .int .i64 t] 27)).cell? ⟨w.heap.size, 1, none⟩ = some (.int .i64 t) := by rw [new_at rfl]; rfl
  have HB : Hid (Below w.heap.size w (w.alloc (.cells #[.slice (some ⟨g, 0, none⟩) 21 cp, .int .i64 t] 27))) := (Below.refl _ _).alloc (Nat.le_refl _) _
  clear hcell
  go_enter Try.func32, Try.ntmps32
  go_wp2
  generalize (w.alloc (.cells #[.slice (some ⟨g, 0, none⟩) 21 cp, .int .i64 t] 27)) = w1 at *
  go_loop [3, 4, 16] (fun s m i => ∃ (k : Nat) (a b : Int), k ≤ 21 ∧ i = .int .i64 (k : Int) ∧ s = .int .i64 a ∧ m = .int .i64 b ∧ 0 ≤ a ∧ a ≤ 21000000000000 ∧ 0 ≤ b ∧ b ≤ 21000000000000 ∧ Hid (Sums C k a b)) (fun _ _ i => 21 - (intOf i).toNat)
  case atStart => exact ⟨0, 0, 0, by omega, rfl, rfl, rfl, by omega, by omega, by omega, by omega, Sums.start C⟩
  case round =>
    obtain ⟨k, a, b, hk, rfl, rfl, rfl, ha0, ha1, hb0', hb1', hS⟩ := hrel
    by_cases hlt : k < 21
    case neg =>
      obtain rfl : k = 21 := by omega
      have E : Hid (hkB C t = inB t a b) := hk_end HL.out hS.out
      by_cases h1 : a ≤ t
      · by_cases h2 : t ≤ b
        · have E2 : Hid (inB t a b = true) := by show _ = _; unfold inB; rw [decide_eq_true h1, decide_eq_true h2]; rfl
          have d1 : decide (t ≥ a) = true := decide_eq_true h1
          go_wp2
          go_ret
          exact ⟨ret_bool (E.out.trans E2.out).symm, HB.out⟩
        · have E2 : Hid (inB t a b = false) := by show _ = _; unfold inB; rw [decide_eq_true h1, decide_eq_false h2]; rfl
          have d1 : decide (t ≥ a) = true := decide_eq_true h1
          go_wp2
          go_ret
          exact ⟨ret_bool (E.out.trans E2.out).symm, HB.out⟩
      · have E2 : Hid (inB t a b = false) := by show _ = _; unfold inB; rw [decide_eq_false h1]; rfl
        have d1 : decide (t ≥ a) = false := decide_eq_false h1
        go_wp2
        go_ret
        exact ⟨ret_bool (E.out.trans E2.out).symm, HB.out⟩
    case pos =>
    have hq : (k : Int) < 21 := by omega
    obtain ⟨z, hz⟩ : ∃ z, z = cAt C k := ⟨_, rfl⟩
    have d0 : w1.cell? ⟨g, k, none⟩ = some (.int .i64 z) := HCELL.out k z (by rw [hz]; exact cAt_some (by rw [HL.out]; omega))
    cases hv : vB z with
    | false =>
      have E : Hid (hkB C t = false) := hk_bad (k := k) hlt (by rw [← hz]; exact hv)
      clear hz hS
      by_cases hn0 : z < 0
      · go_wp2
        go_ret
        exact ⟨ret_bool E.out.symm, HB.out⟩
      · have hn1 : z > 1000000 := by rw [Bool.eq_false_iff, ne_eq, vB_iff] at hv; omega
        clear hv
        go_wp2
        go_ret
        exact ⟨ret_bool E.out.symm, HB.out⟩
    | true =>
      obtain ⟨hS2, ⟨p0, p1⟩, ⟨p2, p3⟩, s0, s1, s2, s3⟩ := hS.out.next hlt hz hv
      have hvv := vB_iff.1 hv
      obtain ⟨v0, v1⟩ := hvv
      obtain ⟨l0, l1, l2⟩ := blo_in hlt
      obtain ⟨hr1, hr2⟩ := rlo_nat hlt
      generalize blo k = L at *
      generalize bhi k = H at *
      have HS2 := Lib.hid hS2
      rw [Int.mul_comm L z, Int.mul_comm H z] at HS2
      rw [Int.mul_comm L z] at p0 p1 s0 s1
      rw [Int.mul_comm H z] at p2 p3 s2 s3
      have hn0 : ¬ z < 0 := by omega
      have hn1 : ¬ z > 1000000 := by omega
      clear hS2 hS hz hv
      go_wp2_with (first | (go_at_call 54; refine (in_any _ 0 1000000 _).mono ?_; rw [inB_v, hv]; rintro e w2 ⟨rfl, rfl⟩) | (go_at_call 28; refine (ibr_any _ _).mono ?_; rw [hr1, hr2]; rintro e w3 ⟨rfl, rfl⟩))
      go_round
      case rel => exact ⟨k + 1, _, _, by omega, by go_num, rfl, rfl, s0, s1, s2, s3, HS2⟩
      case measure => simp [intOf]; omega

end Go.Proofs.Ytcchoiobdcaboaa
