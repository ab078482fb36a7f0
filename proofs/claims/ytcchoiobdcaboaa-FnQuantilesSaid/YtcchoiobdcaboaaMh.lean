/- Histograms as mathematics. -/
import Derived.Lib.BitFns
import Derived.Test.YtcchoiobdcaboaaGa
namespace Go.Proofs.Ytcchoiobdcaboaa
open Go.RowKit

/-- The number of bits of a value, as both sides count them. -/
abbrev bl (v : Int) : Nat := Lib.bitLen v.toNat
def vB (v : Int) : Bool := decide (0 ≤ v) && decide (v ≤ 1000000)
theorem vB_iff {v : Int} : vB v = true ↔ 0 ≤ v ∧ v ≤ 1000000 := by simp [vB]
/-- The bucket of a value. -/
def bkt (v : Int) : Int := if 0 ≤ v ∧ v ≤ 1000000 then (bl v : Int) else -1
/-- The least and the greatest value of a bucket. -/
def blo (k : Nat) : Int := ((2 ^ k / 2 : Nat) : Int)
def bhi (k : Nat) : Int := if 2 ^ k - 1 ≤ 1000000 then ((2 ^ k - 1 : Nat) : Int) else 1000000
def rlo (k : Int) : Int := if 0 ≤ k ∧ k ≤ 20 then blo k.toNat else -1
def rhi (k : Int) : Int := if 0 ≤ k ∧ k ≤ 20 then bhi k.toNat else -1
theorem brange : ∀ k : Fin 21, 0 ≤ blo k.val ∧ blo k.val ≤ bhi k.val ∧ bhi k.val ≤ 1000000 := by decide +kernel
theorem blo_in {k : Nat} (h : k < 21) : 0 ≤ blo k ∧ blo k ≤ bhi k ∧ bhi k ≤ 1000000 := brange ⟨k, h⟩
/-- A value with k bits lies between 2^(k-1) and 2^k - 1. -/
theorem bl_bounds : ∀ (f x : Nat), x < 2 ^ f → f ≤ 64 → 2 ^ (Lib.bitLen x) / 2 ≤ x ∧ x ≤ 2 ^ (Lib.bitLen x) - 1 ∧ Lib.bitLen x ≤ f
  | 0, x, h, _ => by
    obtain rfl : x = 0 := by simpa using h
    exact ⟨by decide, by decide, by decide⟩
  | f + 1, x, h, hf => by
    by_cases h0 : x = 0
    · subst h0
      exact ⟨by show 2 ^ (Lib.bitLen 0) / 2 ≤ 0; decide, by decide, by show Lib.bitLen 0 ≤ _; rw [show Lib.bitLen 0 = 0 by decide]; omega⟩
    · have h64 : x < 2 ^ 64 := Nat.lt_of_lt_of_le h (Nat.pow_le_pow_right (by omega) hf)
      rw [Lib.bitLen_half x h0 h64]
      have hx : x / 2 < 2 ^ f := by rw [Nat.pow_succ] at h; omega
      obtain ⟨h1, h2, h3⟩ := bl_bounds f (x / 2) hx (by omega)
      have hp : 0 < 2 ^ (Lib.bitLen (x / 2)) := Nat.pow_pos (by omega)
      rw [Nat.add_comm 1, Nat.pow_succ]
      refine ⟨?_, ?_, by omega⟩
      · rw [Nat.mul_div_cancel _ (by omega)]
        by_cases hz : x / 2 = 0
        · rw [hz, show Lib.bitLen 0 = 0 by decide]; omega
        · have hz64 : x / 2 < 2 ^ 64 := by omega
          have e := Lib.bitLen_half (x / 2) hz hz64
          have e2 : 2 ^ Lib.bitLen (x / 2) = 2 * (2 ^ Lib.bitLen (x / 2) / 2) := by rw [e, Nat.add_comm 1, Nat.pow_succ]; omega
          omega
      · omega
theorem bl_in {v : Int} (h0 : 0 ≤ v) (h1 : v ≤ 1000000) : bl v < 21 ∧ blo (bl v) ≤ v ∧ v ≤ bhi (bl v) := by
  obtain ⟨a, b, c⟩ := bl_bounds 20 v.toNat (by omega) (by omega)
  refine ⟨by show Lib.bitLen _ < 21; omega, ?_, ?_⟩
  · show ((2 ^ Lib.bitLen v.toNat / 2 : Nat) : Int) ≤ v
    generalize 2 ^ Lib.bitLen v.toNat = p at *
    omega
  · show v ≤ bhi (Lib.bitLen v.toNat)
    unfold bhi
    generalize 2 ^ Lib.bitLen v.toNat = p at *
    split <;> omega
theorem bkt_yes {v : Int} (h : vB v = true) : bkt v = (bl v : Int) := by rw [vB_iff] at h; unfold bkt; rw [if_pos h]
theorem bkt_no {v : Int} (h : vB v = false) : bkt v = -1 := by unfold bkt; rw [if_neg]; intro hc; rw [← vB_iff, h] at hc; cases hc
/-- Cell i of a list. -/
def cAt (C : List Int) (i : Nat) : Int := C.getD i 0
theorem cAt_of {C : List Int} {i : Nat} {z : Int} (h : C[i]? = some z) : cAt C i = z := by unfold cAt; rw [List.getD_eq_getElem?_getD, h]; rfl
theorem cAt_some {C : List Int} {i : Nat} (h : i < C.length) : C[i]? = some (cAt C i) := by unfold cAt; rw [List.getD_eq_getElem?_getD, List.getElem?_eq_getElem h]; rfl
/-- Sums over the first k buckets. -/
def loS (C : List Int) : Nat → Int
  | 0 => 0
  | k + 1 => loS C k + blo k * cAt C k
def hiS (C : List Int) : Nat → Int
  | 0 => 0
  | k + 1 => hiS C k + bhi k * cAt C k
def cS (C : List Int) : Nat → Int
  | 0 => 0
  | k + 1 => cS C k + cAt C k
/-- The first k buckets hold numbers of values. -/
def cOk (C : List Int) : Nat → Bool
  | 0 => true
  | k + 1 => cOk C k && vB (cAt C k)
theorem cOk_at {C : List Int} : ∀ {k i : Nat}, cOk C k = true → i < k → 0 ≤ cAt C i ∧ cAt C i ≤ 1000000
  | 0, i, _, h => by omega
  | k + 1, i, h, hi => by
    rw [cOk, Bool.and_eq_true, vB_iff] at h
    by_cases e : i = k
    · subst e; exact h.2
    · exact cOk_at h.1 (by omega)
theorem cOk_of {C : List Int} : ∀ {k : Nat}, (∀ i, i < k → 0 ≤ cAt C i ∧ cAt C i ≤ 1000000) → cOk C k = true
  | 0, _ => rfl
  | k + 1, h => by rw [cOk, Bool.and_eq_true, vB_iff]; exact ⟨cOk_of fun i hi => h i (by omega), h k (by omega)⟩
theorem cOk_no {C : List Int} {k i : Nat} (h : vB (cAt C i) = false) (hi : i < k) : cOk C k = false := by
  rw [Bool.eq_false_iff]
  intro hc
  have := cOk_at hc hi
  rw [← vB_iff, h] at this
  cases this
theorem mul_in {a b : Int} (a0 : 0 ≤ a) (a1 : a ≤ 1000000) (b0 : 0 ≤ b) (b1 : b ≤ 1000000) : 0 ≤ a * b ∧ a * b ≤ 1000000000000 := by
  refine ⟨Int.mul_nonneg a0 b0, ?_⟩
  have h1 : a * b ≤ 1000000 * b := Int.mul_le_mul_of_nonneg_right a1 b0
  omega
theorem S_in {C : List Int} : ∀ {k : Nat}, k ≤ 21 → cOk C k = true → (0 ≤ loS C k ∧ loS C k ≤ hiS C k ∧ hiS C k ≤ (k : Int) * 1000000000000) ∧ 0 ≤ cS C k ∧ cS C k ≤ (k : Int) * 1000000
  | 0, _, _ => by simp [loS, hiS, cS]
  | k + 1, hk, h => by
    have hc := cOk_at h (show k < k + 1 by omega)
    rw [cOk, Bool.and_eq_true] at h
    obtain ⟨⟨a, b, c⟩, d, e⟩ := S_in (by omega) h.1
    obtain ⟨l0, l1, l2⟩ := blo_in (k := k) (by omega)
    have m1 := mul_in l0 (by omega) hc.1 hc.2
    have m2 := mul_in (a := bhi k) (by omega) l2 hc.1 hc.2
    have m3 : blo k * cAt C k ≤ bhi k * cAt C k := Int.mul_le_mul_of_nonneg_right l1 hc.1
    rw [loS, hiS, cS]
    refine ⟨⟨by omega, by omega, ?_⟩, by omega, ?_⟩
    · push_cast; omega
    · push_cast; omega
/-- Whether a histogram is valid. -/
def hkB (C : List Int) (s : Int) : Bool := decide (C.length = 21) && (cOk C 21 && (decide (loS C 21 ≤ s) && decide (s ≤ hiS C 21)))
theorem hkB_iff {C : List Int} {s : Int} : hkB C s = true ↔ C.length = 21 ∧ cOk C 21 = true ∧ loS C 21 ≤ s ∧ s ≤ hiS C 21 := by simp [hkB]
theorem hk_sum {C : List Int} {s : Int} (h : hkB C s = true) : 0 ≤ s ∧ s ≤ 21000000000000 := by
  obtain ⟨_, h2, h3, h4⟩ := hkB_iff.1 h
  obtain ⟨⟨a, b, c⟩, _⟩ := S_in (Nat.le_refl 21) h2
  omega
/-- One more value in bucket b. -/
def inc (C : List Int) (b : Nat) : List Int := C.set b (cAt C b + 1)
theorem inc_len (C : List Int) (b : Nat) : (inc C b).length = C.length := by simp [inc]
theorem inc_at (C : List Int) (b i : Nat) (hb : b < C.length) : cAt (inc C b) i = cAt C i + (if i = b then 1 else 0) := by
  unfold inc
  by_cases e : i = b
  · subst e
    rw [if_pos rfl, cAt_of (List.getElem?_set_self hb)]
  · rw [if_neg e, Int.add_zero]
    unfold cAt
    rw [List.getD_eq_getElem?_getD, List.getElem?_set_ne (by omega), List.getD_eq_getElem?_getD]
theorem inc_S (C : List Int) (b : Nat) (hb : b < C.length) : ∀ k, loS (inc C b) k = loS C k + (if b < k then blo b else 0) ∧ hiS (inc C b) k = hiS C k + (if b < k then bhi b else 0) ∧ cS (inc C b) k = cS C k + (if b < k then 1 else 0)
  | 0 => by simp [loS, hiS, cS]
  | k + 1 => by
    obtain ⟨h1, h2, h3⟩ := inc_S C b hb k
    rw [loS, hiS, cS, loS, hiS, cS, h1, h2, h3, inc_at C b k hb]
    by_cases e : k = b
    · subst e
      rw [if_neg (Nat.lt_irrefl _), if_pos rfl, if_pos (Nat.lt_succ_self _), if_neg (Nat.lt_irrefl _), if_neg (Nat.lt_irrefl _), if_pos (Nat.lt_succ_self _), if_pos (Nat.lt_succ_self _), Int.mul_add, Int.mul_add]
      omega
    · rw [if_neg e]
      have e2 : (b < k + 1) = (b < k) := by apply propext; omega
      simp only [e2, Int.add_zero]
      omega
/-- A valid histogram with one more value is valid where the bucket has room. -/
theorem inc_ok {C : List Int} {s v : Int} (h : hkB C s = true) (hv : vB v = true) (hr : cAt C (bl v) + 1 ≤ 1000000) : hkB (inc C (bl v)) (s + v) = true := by
  obtain ⟨h1, h2, h3, h4⟩ := hkB_iff.1 h
  rw [vB_iff] at hv
  obtain ⟨b1, b2, b3⟩ := bl_in hv.1 hv.2
  obtain ⟨e1, e2, _⟩ := inc_S C (bl v) (by omega) 21
  rw [if_pos b1] at e1 e2
  refine hkB_iff.2 ⟨by rw [inc_len]; exact h1, cOk_of fun i hi => ?_, by omega, by omega⟩
  rw [inc_at C (bl v) i (by omega)]
  have := cOk_at h2 hi
  split
  · rename_i e; subst e; omega
  · omega
/-- A histogram and t times another. -/
def comb (C D : List Int) (t : Int) (k : Nat) : List Int := (List.range C.length).map fun i => if i < k then cAt C i + t * cAt D i else cAt C i
theorem comb_len (C D : List Int) (t : Int) (k : Nat) : (comb C D t k).length = C.length := by simp [comb]
theorem comb_zero (C D : List Int) (t : Int) : comb C D t 0 = C := by
  apply List.ext_getElem?
  intro i
  by_cases h : i < C.length
  · unfold comb
    rw [List.getElem?_map, List.getElem?_range h, cAt_some h]
    simp
  · rw [List.getElem?_eq_none (by rw [comb_len]; omega), List.getElem?_eq_none (by omega)]
theorem comb_at (C D : List Int) (t : Int) (k i : Nat) (h : i < C.length) : (comb C D t k)[i]? = some (if i < k then cAt C i + t * cAt D i else cAt C i) := by
  unfold comb
  rw [List.getElem?_map, List.getElem?_range h]
  rfl
theorem comb_cAt (C D : List Int) (t : Int) (k i : Nat) (h : i < C.length) : cAt (comb C D t k) i = if i < k then cAt C i + t * cAt D i else cAt C i := cAt_of (comb_at C D t k i h)
theorem comb_step (C D : List Int) (t : Int) (k : Nat) (h : k < C.length) : (comb C D t k).set k (cAt C k + t * cAt D k) = comb C D t (k + 1) := by
  apply List.ext_getElem?
  intro i
  by_cases hi : i < C.length
  · rw [comb_at _ _ _ _ _ hi]
    by_cases e : k = i
    · subst e
      rw [List.getElem?_set_self (by rw [comb_len]; exact h), if_pos (Nat.lt_succ_self _)]
    · rw [List.getElem?_set_ne e, comb_at _ _ _ _ _ hi]
      have : (i < k + 1) = (i < k) := by apply propext; omega
      simp only [this]
  · rw [List.getElem?_eq_none (by rw [List.length_set, comb_len]; omega), List.getElem?_eq_none (by rw [comb_len]; omega)]
/-- The list of zeros and its one-value histograms. -/
def H0 : List Int := List.replicate 21 0
theorem H0_len : H0.length = 21 := by decide
theorem H0_at (i : Nat) : cAt H0 i = 0 := by
  unfold cAt H0
  rw [List.getD_eq_getElem?_getD, List.getElem?_replicate]
  split <;> rfl
theorem H0_ok : hkB H0 0 = true := by decide +kernel
theorem comb_one (C : List Int) (b : Nat) (hC : C.length = 21) (hb : b < 21) : comb C (inc H0 b) 1 21 = inc C b := by
  apply List.ext_getElem?
  intro i
  by_cases hi : i < C.length
  · rw [comb_at _ _ _ _ _ hi, if_pos (by omega), inc_at H0 b i (by rw [H0_len]; exact hb), H0_at, cAt_some (by rw [inc_len]; exact hi), inc_at C b i (by omega)]
    congr 1
    split <;> omega
  · rw [List.getElem?_eq_none (by rw [comb_len]; omega), List.getElem?_eq_none (by rw [inc_len]; omega)]
/-- What a list of values comes to. -/
def hC (L : List Int) : List Int := L.foldl (fun C v => inc C (bl v)) H0
def hS (L : List Int) : Int := L.foldl (fun s v => s + v) 0
def hV (L : List Int) : Bool := L.all vB
theorem hC_snoc (L : List Int) (v : Int) : hC (L ++ [v]) = inc (hC L) (bl v) := by unfold hC; rw [List.foldl_append]; rfl
theorem hS_snoc (L : List Int) (v : Int) : hS (L ++ [v]) = hS L + v := by unfold hS; rw [List.foldl_append]; rfl
theorem hV_snoc (L : List Int) (v : Int) : hV (L ++ [v]) = (hV L && vB v) := by unfold hV; rw [List.all_append]; simp
theorem hC_len (L : List Int) : (hC L).length = 21 := by
  unfold hC
  have : ∀ (L C : List Int), (L.foldl (fun C v => inc C (bl v)) C).length = C.length := by
    intro L
    induction L with
    | nil => intro C; rfl
    | cons v L ih => intro C; rw [List.foldl_cons, ih, inc_len]
  rw [this, H0_len]
theorem snocInd {P : List Int → Prop} (h0 : P []) (h1 : ∀ L v, P L → P (L ++ [v])) (L : List Int) : P L := by
  have : ∀ n (L : List Int), L.length = n → P L := by
    intro n
    induction n with
    | zero => intro L h; obtain rfl := List.eq_nil_of_length_eq_zero h; exact h0
    | succ n ih =>
      intro L h
      have hne : L ≠ [] := by intro e; subst e; simp at h
      rw [← List.dropLast_concat_getLast hne]
      exact h1 _ _ (ih _ (by rw [List.length_dropLast]; omega))
  exact this _ L rfl
theorem hC_cnt (L : List Int) : ∀ i, i < 21 → 0 ≤ cAt (hC L) i ∧ cAt (hC L) i ≤ L.length := by
  induction L using snocInd with
  | h0 => intro i _; show 0 ≤ cAt H0 i ∧ cAt H0 i ≤ _; rw [H0_at]; simp
  | h1 L v ih =>
    intro i hi
    rw [hC_snoc, List.length_append]
    by_cases hb : bl v < 21
    · rw [inc_at _ _ _ (by rw [hC_len]; exact hb)]
      have := ih i hi
      split <;> simp <;> omega
    · have : inc (hC L) (bl v) = hC L := List.set_eq_of_length_le (by rw [hC_len]; omega)
      rw [this]
      have := ih i hi
      simp; omega
/-- The histogram of valid values is valid. -/
theorem hC_ok (L : List Int) (hl : L.length ≤ 1000000) (hv : hV L = true) : hkB (hC L) (hS L) = true := by
  induction L using snocInd with
  | h0 => exact H0_ok
  | h1 L v ih =>
    rw [hV_snoc, Bool.and_eq_true] at hv
    rw [List.length_append] at hl
    simp only [List.length_cons, List.length_nil] at hl
    rw [hC_snoc, hS_snoc]
    have hb := bl_in (vB_iff.1 hv.2).1 (vB_iff.1 hv.2).2
    have := hC_cnt L (bl v) hb.1
    exact inc_ok (ih (by omega) hv.1) hv.2 (by omega)
theorem hS_in (L : List Int) (hv : hV L = true) : 0 ≤ hS L ∧ hS L ≤ (L.length : Int) * 1000000 := by
  induction L using snocInd with
  | h0 => simp [hS]
  | h1 L v ih =>
    rw [hV_snoc, Bool.and_eq_true] at hv
    have := vB_iff.1 hv.2
    have := ih hv.1
    rw [hS_snoc, List.length_append]
    simp only [List.length_cons, List.length_nil]
    push_cast
    omega

end Go.Proofs.Ytcchoiobdcaboaa
