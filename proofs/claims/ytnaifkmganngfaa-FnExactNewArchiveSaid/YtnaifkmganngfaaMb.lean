/- The oldest value that an archive tells, as mathematics. It imports no program. -/
import Derived.Test.YtnaifkmganngfaaMa
namespace Go.Proofs.Ytnaifkmganngfaa

/-- The older of the oldest so far (below 0: none yet) and the first of a level. -/
def olf (a : Int) : List Rw → Int
  | [] => a
  | r :: _ => if a < 0 ∨ r.1 < a then r.1 else a
open Classical in
noncomputable def oldV (t : Int) (D : List (List Rw)) : Int := if arB t D = true then D.foldl olf (-1) else -1
def olk (D : List (List Rw)) (k : Nat) : Int := (D.take k).foldl olf (-1)
theorem olk_succ {D : List (List Rw)} {k : Nat} {l : List Rw} (h : D[k]? = some l) : olk D (k + 1) = olf (olk D k) l := by
  unfold olk
  rw [List.take_add_one, h, List.foldl_append]; rfl
theorem first_in {t : Int} {D : List (List Rw)} (h : arP t D) {k : Nat} {r : Rw} {l : List Rw} (hk : D[k]? = some (r :: l)) : 0 ≤ r.1 ∧ r.1 ≤ 16000000 := by
  have hk3 : k < 3 := by
    rcases Nat.lt_or_ge k 3 with h1 | h1
    · exact h1
    · rw [List.getElem?_eq_none (by rw [h.1]; exact h1)] at hk; simp at hk
  obtain ⟨s0, s1⟩ := szK_in hk3
  obtain ⟨k0, k1, k2, k3, k4⟩ := kept_in h.2.1 s0
  have h2 := ((h.2.2.2 k _ hk).2 0 r rfl).1
  rw [h2]
  have := h.2.2.1
  constructor
  · exact Int.mul_nonneg (by omega) (by omega)
  · have h5 : (t / szK k - kept (szK k) t + ((0 : Nat) : Int)) * szK k ≤ 1000000 * 16 := Int.mul_le_mul (by omega) s1 (by omega) (by omega)
    exact Int.le_trans h5 (by decide)
theorem olk_in {t : Int} {D : List (List Rw)} (h : arP t D) : ∀ k, -1 ≤ olk D k ∧ olk D k ≤ 16000000
  | 0 => by simp [olk]
  | k + 1 => by
    have ih := olk_in h k
    rcases hk : D[k]? with _ | l
    · have : olk D (k + 1) = olk D k := by unfold olk; rw [List.take_add_one, hk]; simp
      rw [this]; exact ih
    · rw [olk_succ hk]
      cases l with
      | nil => exact ih
      | cons r l =>
        have := first_in h hk
        unfold olf
        simp only
        split <;> omega
theorem len0 {t : Int} {D : List (List Rw)} (h : arP t D) {l : List Rw} (hl : D[0]? = some l) : (l.length : Int) = if t < 8 then t else 8 := by
  have := (h.2.2.2 0 l hl).1
  rw [this]
  unfold kept szK
  simp
/-- Level 0 of a valid archive that has received a value. -/
theorem head0 {t : Int} {D : List (List Rw)} (h : arP t D) (ht : t ≠ 0) : ∃ r l, D[0]? = some (r :: l) ∧ 0 ≤ r.1 ∧ r.1 < t := by
  obtain ⟨l, hl⟩ : ∃ l, D[0]? = some l := ⟨_, List.getElem?_eq_getElem (by rw [h.1]; omega)⟩
  have hn := len0 h hl
  have h0 := h.2.1
  cases l with
  | nil => simp at hn; split at hn <;> omega
  | cons r l =>
    refine ⟨r, l, hl, (first_in h hl).1, ?_⟩
    have h2 := ((h.2.2.2 0 _ hl).2 0 r rfl).1
    rw [h2]
    have h3 := (h.2.2.2 0 _ hl).1
    rw [← h3]
    unfold szK
    simp
    omega
theorem olk1 {D : List (List Rw)} {r : Rw} {l : List Rw} (h : D[0]? = some (r :: l)) : olk D 1 = r.1 := by
  rw [olk_succ h]; simp [olk, olf]
theorem olk_pos {t : Int} {D : List (List Rw)} (h : arP t D) (ht : t ≠ 0) : ∀ k, 0 ≤ olk D (k + 1)
  | 0 => by obtain ⟨r, l, h0, h1, _⟩ := head0 h ht; rw [olk1 h0]; exact h1
  | k + 1 => by
    have ih := olk_pos h ht k
    rcases hk : D[k + 1]? with _ | l
    · have : olk D (k + 1 + 1) = olk D (k + 1) := by unfold olk; rw [List.take_add_one, hk]; simp
      rw [this]; exact ih
    · rw [olk_succ hk]
      cases l with
      | nil => exact ih
      | cons r l =>
        have := first_in h hk
        unfold olf
        simp only
        split <;> omega
theorem olk_nil {D : List (List Rw)} {t : Int} (h : arP t D) (ht : t = 0) : ∀ k, olk D k = -1
  | 0 => rfl
  | k + 1 => by
    have ih := olk_nil h ht k
    rcases hk : D[k]? with _ | l
    · have : olk D (k + 1) = olk D k := by unfold olk; rw [List.take_add_one, hk]; simp
      rw [this]; exact ih
    · rw [olk_succ hk]
      have h1 := (h.2.2.2 k l hk).1
      rw [ht] at h1
      have h2 : kept (szK k) 0 = 0 := by unfold kept; simp
      rw [h2] at h1
      have : l = [] := List.length_eq_zero_iff.1 (by omega)
      subst this
      exact ih
theorem oldV_all {t : Int} {D : List (List Rw)} (h : arP t D) : oldV t D = olk D 3 := by
  unfold oldV olk
  rw [if_pos (arB_iff.2 h), List.take_of_length_le (by rw [h.1]; omega)]
theorem oldV_no {t : Int} {D : List (List Rw)} (h : arB t D = false) : oldV t D = -1 := by
  unfold oldV; rw [h]; simp
theorem olf_eq {a : Int} {r : Rw} {l : List Rw} : olf a (r :: l) = if a < 0 ∨ r.1 < a then r.1 else a := rfl

end Go.Proofs.Ytnaifkmganngfaa
