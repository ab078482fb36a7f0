/- Values in ascending order, and their histograms. -/
import Derived.Test.YtcchoiobdcaboaaS8
import Derived.Test.YtcchoiobdcaboaaS4
namespace Go.Proofs.Ytcchoiobdcaboaa
open Go.RowKit

theorem hC_at (L : List Int) : ∀ b, b < 21 → cAt (hC L) b = ((L.countP fun v => decide (bl v = b) : Nat) : Int) := by
  induction L using snocInd with
  | h0 => intro b _; show cAt H0 b = _; rw [H0_at]; rfl
  | h1 L v ih =>
    intro b hb
    rw [hC_snoc, List.countP_append, List.countP_cons, List.countP_nil]
    by_cases hv : bl v < 21
    · rw [inc_at _ _ _ (by rw [hC_len]; exact hv), ih b hb]
      by_cases e : b = bl v
      · subst e; simp
      · rw [if_neg e, if_neg (by simpa using fun h => e h.symm)]; simp
    · have : inc (hC L) (bl v) = hC L := List.set_eq_of_length_le (by rw [hC_len]; omega)
      rw [this, ih b hb, if_neg (by simp; omega)]
      simp
theorem cnt_split (L : List Int) (k : Nat) : L.countP (fun v => decide (bl v < k + 1)) = L.countP (fun v => decide (bl v < k)) + L.countP (fun v => decide (bl v = k)) := by
  induction L with
  | nil => rfl
  | cons v L ih =>
    rw [List.countP_cons, List.countP_cons, List.countP_cons, ih]
    by_cases h1 : bl v < k
    · rw [if_pos (by simp; omega), if_pos (by simpa using h1), if_neg (by simp; omega)]; omega
    · by_cases h2 : bl v = k
      · rw [if_pos (by simp; omega), if_neg (by simpa using h1), if_pos (by simpa using h2)]; omega
      · rw [if_neg (by simp; omega), if_neg (by simpa using h1), if_neg (by simpa using h2)]; omega
theorem cS_cnt (L : List Int) : ∀ k, k ≤ 21 → cS (hC L) k = ((L.countP fun v => decide (bl v < k) : Nat) : Int)
  | 0, _ => by
    rw [cS, List.countP_eq_zero.2 (fun v _ => by simp)]
    rfl
  | k + 1, h => by rw [cS, cS_cnt L k (by omega), hC_at L k (by omega), cnt_split, Int.natCast_add]
/-- A value is put into an ascending list. -/
def ins (v : Int) : List Int → List Int
  | [] => [v]
  | r :: R => if v < r then v :: r :: R else r :: ins v R
def hasG (v : Int) (A : List Int) : Bool := A.any fun r => decide (v < r)
theorem hasG_snoc (v r : Int) (A : List Int) : hasG v (A ++ [r]) = (hasG v A || decide (v < r)) := by simp [hasG]
theorem ins_no {v : Int} : ∀ {A : List Int}, hasG v A = false → ins v A = A ++ [v]
  | [], _ => rfl
  | r :: A, h => by
    simp only [hasG, List.any_cons, Bool.or_eq_false_iff, decide_eq_false_iff_not] at h
    rw [ins, if_neg h.1, ins_no (A := A) h.2]
    rfl
theorem ins_yes {v r : Int} : ∀ {A : List Int}, hasG v A = true → ins v (A ++ [r]) = ins v A ++ [r]
  | [], h => by simp [hasG] at h
  | q :: A, h => by
    by_cases hq : v < q
    · rw [List.cons_append, ins, if_pos hq, ins, if_pos hq]; rfl
    · simp only [hasG, List.any_cons, Bool.or_eq_true, decide_eq_true_eq] at h
      have h2 : hasG v A = true := h.resolve_left hq
      rw [List.cons_append, ins, if_neg hq, ins, if_neg hq, ins_yes h2]
      rfl
theorem ins_first {v r : Int} : ∀ {A : List Int}, hasG v A = false → v < r → ins v (A ++ [r]) = A ++ [v, r]
  | [], _, hr => by rw [List.nil_append, ins, if_pos hr]; rfl
  | q :: A, h, hr => by
    simp only [hasG, List.any_cons, Bool.or_eq_false_iff, decide_eq_false_iff_not] at h
    rw [List.cons_append, ins, if_neg h.1, ins_first (A := A) h.2 hr]
    rfl
theorem ins_len (v : Int) : ∀ A : List Int, (ins v A).length = A.length + 1
  | [] => rfl
  | r :: A => by
    rw [ins]
    split
    · rfl
    · simp [ins_len v A]
theorem ins_cnt (p : Int → Bool) (v : Int) : ∀ A : List Int, (ins v A).countP p = A.countP p + (if p v then 1 else 0)
  | [] => by rw [ins, List.countP_cons]
  | r :: A => by
    rw [ins]
    split
    · rw [List.countP_cons]
    · rw [List.countP_cons, List.countP_cons, ins_cnt p v A]; omega
theorem ins_mem {v x : Int} : ∀ {A : List Int}, x ∈ ins v A → x = v ∨ x ∈ A
  | [], h => by simp [ins] at h; exact .inl h
  | r :: A, h => by
    rw [ins] at h
    split at h
    · simpa using h
    · rcases List.mem_cons.1 h with h | h
      · exact .inr (h ▸ List.mem_cons_self)
      · rcases ins_mem h with h | h
        · exact .inl h
        · exact .inr (List.mem_cons_of_mem _ h)
theorem ins_srt (v : Int) : ∀ {A : List Int}, A.Pairwise (· ≤ ·) → (ins v A).Pairwise (· ≤ ·)
  | [], _ => by simp [ins]
  | r :: A, h => by
    rw [ins]
    split
    · rename_i hv
      rw [List.pairwise_cons]
      refine ⟨fun x hx => ?_, h⟩
      rcases List.mem_cons.1 hx with rfl | hx
      · omega
      · have := (List.pairwise_cons.1 h).1 x hx
        omega
    · rename_i hv
      rw [List.pairwise_cons] at h ⊢
      refine ⟨fun x hx => ?_, ins_srt v h.2⟩
      rcases ins_mem hx with rfl | hx
      · omega
      · exact h.1 x hx
/-- The list in ascending order. -/
def rowOf (L : List Int) : List Int := L.foldl (fun R v => ins v R) []
theorem rowOf_snoc (L : List Int) (v : Int) : rowOf (L ++ [v]) = ins v (rowOf L) := by unfold rowOf; rw [List.foldl_append]; rfl
theorem rowOf_len (L : List Int) : (rowOf L).length = L.length := by
  induction L using snocInd with
  | h0 => rfl
  | h1 L v ih => rw [rowOf_snoc, ins_len, ih, List.length_append]; rfl
theorem rowOf_cnt (p : Int → Bool) (L : List Int) : (rowOf L).countP p = L.countP p := by
  induction L using snocInd with
  | h0 => rfl
  | h1 L v ih => rw [rowOf_snoc, ins_cnt, ih, List.countP_append, List.countP_cons, List.countP_nil]; omega
theorem rowOf_srt (L : List Int) : (rowOf L).Pairwise (· ≤ ·) := by
  induction L using snocInd with
  | h0 => exact List.Pairwise.nil
  | h1 L v ih => rw [rowOf_snoc]; exact ins_srt v ih
theorem rowOf_mem {L : List Int} {x : Int} : x ∈ rowOf L → x ∈ L := by
  induction L using snocInd with
  | h0 => exact id
  | h1 L v ih =>
    rw [rowOf_snoc]
    intro h
    rcases ins_mem h with h | h
    · simp [h]
    · simp [ih h]
theorem rowOf_take {L : List Int} {k : Nat} {v : Int} (h : L[k]? = some v) : rowOf (L.take (k + 1)) = ins v (rowOf (L.take k)) := by rw [take_snoc1 h, rowOf_snoc]
theorem bl_mono {v w : Int} (_h0 : 0 ≤ v) (h : v ≤ w) (hw : w ≤ 1000000) : bl v ≤ bl w := by
  rcases Nat.lt_or_ge (bl w) (bl v) with h1 | h1
  · exfalso
    obtain ⟨a, b, _⟩ := bl_bounds 20 v.toNat (by omega) (by omega)
    obtain ⟨c, d, _⟩ := bl_bounds 20 w.toNat (by omega) (by omega)
    have hp : 2 ^ (Lib.bitLen w.toNat + 1) ≤ 2 ^ (Lib.bitLen v.toNat) := Nat.pow_le_pow_right (by omega) h1
    rw [Nat.pow_succ] at hp
    have hpos : 0 < 2 ^ (Lib.bitLen w.toNat) := Nat.pow_pos (by omega)
    generalize 2 ^ (Lib.bitLen w.toNat) = p at *
    generalize 2 ^ (Lib.bitLen v.toNat) = q at *
    omega
  · exact h1
theorem cnt_low {R : List Int} {i : Nat} {x : Int} (p : Int → Bool) (hs : R.Pairwise (· ≤ ·)) (hx : R[i]? = some x) (hp : p x = false) (hm : ∀ a b, a ∈ R → b ∈ R → a ≤ b → p b = true → p a = true) : R.countP p ≤ i := by
  have hi := lt_of_at hx
  have hxe : R[i] = x := by rw [List.getElem?_eq_getElem hi] at hx; exact Option.some.inj hx
  rw [← List.take_append_drop i R, List.countP_append]
  have h1 : (R.take i).countP p ≤ i := Nat.le_trans List.countP_le_length (by rw [List.length_take]; omega)
  have h2 : (R.drop i).countP p = 0 := by
    rw [List.countP_eq_zero]
    intro y hy hpy
    obtain ⟨j, hj, rfl⟩ := List.mem_iff_getElem.1 hy
    rw [List.getElem_drop] at hpy
    rw [List.length_drop] at hj
    have hle : x ≤ R[i + j] := by
      rcases Nat.eq_zero_or_pos j with h | h
      · subst h; rw [← hxe]; exact Int.le_refl _
      · rw [← hxe]; exact List.pairwise_iff_getElem.1 hs i (i + j) hi (by omega) (by omega)
    have := hm x (R[i + j]) (hxe ▸ List.getElem_mem hi) (List.getElem_mem _) hle hpy
    rw [hp] at this
    cases this
  omega
theorem cnt_high {R : List Int} {i : Nat} {x : Int} (p : Int → Bool) (hs : R.Pairwise (· ≤ ·)) (hx : R[i]? = some x) (hp : p x = true) (hm : ∀ a b, a ∈ R → b ∈ R → a ≤ b → p b = true → p a = true) : i < R.countP p := by
  have hi := lt_of_at hx
  have hxe : R[i] = x := by rw [List.getElem?_eq_getElem hi] at hx; exact Option.some.inj hx
  rw [← List.take_append_drop (i + 1) R, List.countP_append]
  have h1 : (R.take (i + 1)).countP p = (R.take (i + 1)).length := by
    rw [List.countP_eq_length]
    intro y hy
    obtain ⟨j, hj, rfl⟩ := List.mem_iff_getElem.1 hy
    rw [List.getElem_take]
    rw [List.length_take] at hj
    have hle : R[j] ≤ x := by
      rcases Nat.lt_or_ge j i with h | h
      · rw [← hxe]; exact List.pairwise_iff_getElem.1 hs j i (by omega) hi h
      · obtain rfl : j = i := by omega
        rw [hxe]; exact Int.le_refl _
    exact hm _ x (List.getElem_mem _) (hxe ▸ List.getElem_mem hi) hle hp
  rw [h1, List.length_take]
  omega
/-- The search ends at the bucket in which the index lies. -/
theorem qk_at {C : List Int} {K : Nat} {a : Int} (hl : C.length = 21) (hok : cOk C 21 = true) (hK : K < 21) (h0 : 0 ≤ a) (h1 : cS C K ≤ a) (h2 : a < cS C (K + 1)) : qk C a = K := by
  have mono : ∀ {i j : Nat}, i ≤ j → j ≤ 21 → cS C i ≤ cS C j := by
    intro i j hij hj
    induction j with
    | zero => obtain rfl : i = 0 := by omega
              exact Int.le_refl _
    | succ j ih =>
      rcases Nat.lt_or_ge i (j + 1) with h | h
      · have := ih (by omega) (by omega)
        have := (cOk_at hok (show j < 21 by omega)).1
        rw [cS]
        omega
      · obtain rfl : i = j + 1 := by omega
        exact Int.le_refl _
  have hs : ∀ k, k ≤ K → Srch C (qk C a) k (a - cS C k) := by
    intro k
    induction k with
    | zero => intro _; exact ⟨by rw [Nat.zero_add, cS, Int.sub_zero]; rfl, by rw [cS]; omega, by have := mono (show K + 1 ≤ 21 by omega) (Nat.le_refl 21); rw [cS, Int.sub_zero, Int.add_zero]; omega⟩
    | succ k ih =>
      intro hk
      have hle : cAt C k ≤ a - cS C k := by
        have := mono (show k + 1 ≤ K by omega) (by omega)
        rw [cS] at this
        omega
      have := (ih (by omega)).next hl (by omega) hle
      rw [cS, show a - (cS C k + cAt C k) = a - cS C k - cAt C k by omega]
      exact this
  have hf := (hs K (Nat.le_refl _)).found hl hK (by rw [cS] at h2; omega)
  exact hf.symm
theorem hV_mem {L : List Int} (h : hV L = true) {x : Int} (hx : x ∈ L) : 0 ≤ x ∧ x ≤ 1000000 := by
  unfold hV at h
  rw [List.all_eq_true] at h
  exact vB_iff.1 (h x hx)
/-- The true value at an index lies in the bucket that the search finds. -/
theorem qua_true {L : List Int} {i : Nat} {x : Int} (hl : L.length ≤ 300) (hv : hV L = true) (hx : (rowOf L)[i]? = some x) : qk (hC L) (i : Int) = bl x ∧ blo (bl x) ≤ x ∧ x ≤ bhi (bl x) ∧ bl x < 21 := by
  have hm := hV_mem hv (rowOf_mem (List.mem_of_getElem? hx))
  obtain ⟨b1, b2, b3⟩ := bl_in hm.1 hm.2
  have hmono : ∀ k a b, a ∈ rowOf L → b ∈ rowOf L → a ≤ b → decide (bl b < k) = true → decide (bl a < k) = true := by
    intro k a b ha hb hab h
    have h1 := hV_mem hv (rowOf_mem ha)
    have h2 := hV_mem hv (rowOf_mem hb)
    have := bl_mono h1.1 hab h2.2
    simp only [decide_eq_true_eq] at h ⊢
    omega
  refine ⟨?_, b2, b3, b1⟩
  have hok := (hkB_iff.1 (hC_ok L (by omega) hv)).2.1
  refine qk_at (hC_len L) hok b1 (by omega) ?_ ?_
  · rw [cS_cnt L _ (by omega), ← rowOf_cnt]
    have := cnt_low (fun v => decide (bl v < bl x)) (rowOf_srt L) hx (by simp) (hmono _)
    omega
  · rw [cS_cnt L _ (by omega), ← rowOf_cnt]
    have := cnt_high (fun v => decide (bl v < bl x + 1)) (rowOf_srt L) hx (by simp) (hmono _)
    omega
theorem cnt_hC {L : List Int} (hl : L.length ≤ 300) (hv : hV L = true) : cntV (hC L) (hS L) = (L.length : Int) := by
  rw [cnt_yes (hC_ok L (by omega) hv), cS_cnt L 21 (by omega), List.countP_eq_length.2]
  intro x hx
  have := hV_mem hv hx
  simpa using (bl_in this.1 this.2).1
theorem mean_hC {L : List Int} (hl : L.length ≤ 300) (hp : 0 < L.length) (hv : hV L = true) : meanV (hC L) (hS L) = hS L / (L.length : Int) := by
  unfold meanV
  rw [cnt_hC hl hv, if_neg (by omega)]
theorem hS_app (A B : List Int) : hS (A ++ B) = hS A + hS B := by
  induction B using snocInd with
  | h0 => simp [hS]
  | h1 B v ih => rw [← List.append_assoc, hS_snoc, hS_snoc, ih]; omega
theorem ext21 {C D : List Int} (h1 : C.length = 21) (h2 : D.length = 21) (h : ∀ i, i < 21 → cAt C i = cAt D i) : C = D := by
  apply List.ext_getElem?
  intro i
  by_cases hi : i < 21
  · rw [cAt_some (by omega), cAt_some (by omega), h i hi]
  · rw [List.getElem?_eq_none (by omega), List.getElem?_eq_none (by omega)]
theorem merge_hC (A B : List Int) : comb (hC A) (hC B) 1 21 = hC (A ++ B) := by
  refine ext21 (by rw [comb_len, hC_len]) (hC_len _) fun i hi => ?_
  rw [comb_cAt _ _ _ _ _ (by rw [hC_len]; exact hi), if_pos hi, hC_at _ _ hi, hC_at _ _ hi, hC_at _ _ hi, List.countP_append]
  push_cast
  omega
theorem less_hC (A B : List Int) : comb (hC (A ++ B)) (hC B) (-1) 21 = hC A := by
  refine ext21 (by rw [comb_len, hC_len]) (hC_len _) fun i hi => ?_
  rw [comb_cAt _ _ _ _ _ (by rw [hC_len]; exact hi), if_pos hi, hC_at _ _ hi, hC_at _ _ hi, hC_at _ _ hi, List.countP_append]
  push_cast
  omega
theorem hV_app (A B : List Int) : hV (A ++ B) = (hV A && hV B) := by unfold hV; rw [List.all_append]
theorem merge_all {A B : List Int} (hl : (A ++ B).length ≤ 300) (hv : hV (A ++ B) = true) : cmB (hC A) (hS A) (hC B) (hS B) 1 = true ∧ cmB (hC (A ++ B)) (hS (A ++ B)) (hC B) (hS B) (-1) = true := by
  have hh := hv
  rw [hV_app, Bool.and_eq_true] at hv
  rw [List.length_append] at hl
  have k1 := hC_ok A (by omega) hv.1
  have k2 := hC_ok B (by omega) hv.2
  have k3 := hC_ok (A ++ B) (by rw [List.length_append]; omega) hh
  unfold cmB
  rw [merge_hC, less_hC, k1, k2, k3, Int.one_mul, ← hS_app, k3, show hS (A ++ B) + -1 * hS B = hS A by rw [hS_app]; omega, k1]
  exact ⟨rfl, rfl⟩

end Go.Proofs.Ytcchoiobdcaboaa
