/- Plain mathematics: a route that is put into a table. -/
import Derived.Test.YtgdnfglhlpnooaaQm
namespace Go.Proofs.Ytgdnfglhlpnooaa
open Go.RowKit


/-- A route put into a table at its place; one of the same prefix goes. -/
def insR (L : List Rt) (r : Rt) : List Rt := L.take (plc L r.1 r.2.1) ++ r :: L.drop (plc L r.1 r.2.1 + if fndB L r.1 r.2.1 = true then 1 else 0)
def putL (L : List Rt) (r : Rt) : List Rt := if tok L = true ∧ tok (insR L r) = true then insR L r else L
def putB (L : List Rt) (r : Rt) : Bool := tok L && tok (insR L r)
theorem insR_yes {L : List Rt} {r : Rt} (h : fndB L r.1 r.2.1 = true) : insR L r = L.set (plc L r.1 r.2.1) r := by
  unfold insR
  rw [if_pos h, List.set_eq_take_append_cons_drop, if_pos (fndB_lt h)]
theorem insR_no {L : List Rt} {r : Rt} (h : fndB L r.1 r.2.1 = false) : insR L r = L.take (plc L r.1 r.2.1) ++ r :: L.drop (plc L r.1 r.2.1) := by
  unfold insR
  rw [if_neg (by rw [h]; simp), Nat.add_zero]
theorem insR_len (L : List Rt) (r : Rt) : (insR L r).length ≤ L.length + 1 := by
  unfold insR
  rw [List.length_append, List.length_cons, List.length_take, List.length_drop]
  split <;> omega
theorem putL_len (L : List Rt) (r : Rt) : (putL L r).length ≤ L.length + 1 := by
  unfold putL
  split
  · exact insR_len L r
  · omega
/-- What the model's loop has behind k rounds: the routes, and whether the new one is among them. -/
def spK (O : List Rt) (r : Rt) : Nat → List Rt × Bool
  | 0 => ([], false)
  | k + 1 => if (spK O r k).2 = false ∧ ahP r.1 r.2.1 (O.getD k rt0).1 (O.getD k rt0).2.1 = true then ((spK O r k).1 ++ [r] ++ [O.getD k rt0], true) else ((spK O r k).1 ++ [O.getD k rt0], (spK O r k).2)
def spF (O : List Rt) (r : Rt) : List Rt := if (spK O r O.length).2 = true then (spK O r O.length).1 else (spK O r O.length).1 ++ [r]
theorem getD_of {L : List Rt} {k : Nat} {r : Rt} (h : L[k]? = some r) : L.getD k rt0 = r := by rw [List.getD_eq_getElem?_getD, h]; rfl
theorem spK_one {O : List Rt} {r q : Rt} {k : Nat} (h : O[k]? = some q) (h1 : (spK O r k).2 = false) (h2 : ahP r.1 r.2.1 q.1 q.2.1 = true) : spK O r (k + 1) = ((spK O r k).1 ++ [r] ++ [q], true) := by
  show (if _ then _ else _) = _
  rw [getD_of h, if_pos ⟨h1, h2⟩]
theorem spK_two {O : List Rt} {r q : Rt} {k : Nat} (h : O[k]? = some q) (h1 : ¬ ((spK O r k).2 = false ∧ ahP r.1 r.2.1 q.1 q.2.1 = true)) : spK O r (k + 1) = ((spK O r k).1 ++ [q], (spK O r k).2) := by
  show (if _ then _ else _) = _
  rw [getD_of h, if_neg h1]
theorem spK_len (O : List Rt) (r : Rt) : ∀ k, (spK O r k).1.length ≤ k + 1 ∧ ((spK O r k).2 = false → (spK O r k).1.length ≤ k)
  | 0 => ⟨by simp [spK], fun _ => by simp [spK]⟩
  | k + 1 => by
    have h := spK_len O r k
    show (if _ then _ else _ : List Rt × Bool).1.length ≤ _ ∧ _
    have e : spK O r (k + 1) = (if (spK O r k).2 = false ∧ ahP r.1 r.2.1 (O.getD k rt0).1 (O.getD k rt0).2.1 = true then ((spK O r k).1 ++ [r] ++ [O.getD k rt0], true) else ((spK O r k).1 ++ [O.getD k rt0], (spK O r k).2)) := rfl
    rw [e]
    split
    · rename_i h1
      refine ⟨?_, fun h2 => by simp at h2⟩
      have := h.2 h1.1
      simp only [List.length_append, List.length_singleton]
      omega
    · simp only [List.length_append, List.length_singleton]
      exact ⟨by omega, fun h2 => by have := h.2 h2; omega⟩
theorem spK_at {O : List Rt} {r : Rt} {j : Nat} (h1 : ∀ k q, k < j → O[k]? = some q → ahP r.1 r.2.1 q.1 q.2.1 = false) (h2 : ∀ q, O[j]? = some q → ahP r.1 r.2.1 q.1 q.2.1 = true) :
    ∀ k, k ≤ O.length → spK O r k = if j < k then (O.take j ++ r :: (O.take k).drop j, true) else (O.take k, false)
  | 0, _ => by simp [spK]
  | k + 1, hk => by
    have ih := spK_at h1 h2 k (by omega)
    obtain ⟨a, b, c, hq⟩ := at_of_lt (L := O) (i := k) (by omega)
    have ht := take_snoc3 hq
    by_cases hjk : j < k
    · rw [if_pos hjk] at ih
      rw [spK_two hq (by rw [ih]; simp), ih, if_pos (by omega), ht, List.drop_append_of_le_length (by rw [List.length_take]; omega)]
      simp
    · rw [if_neg hjk] at ih
      by_cases he : j = k
      · subst he
        rw [spK_one hq (by rw [ih]) (h2 _ hq), ih, if_pos (by omega), ht]
        have hl : (O.take j).length = j := by rw [List.length_take]; omega
        rw [List.drop_append, hl, List.drop_of_length_le (by omega)]
        simp
      · rw [spK_two hq (by rw [h1 k _ (by omega) hq]; simp), ih, if_neg (by omega), ht]
theorem spF_at {O : List Rt} {r : Rt} {j : Nat} (hj : j ≤ O.length) (h1 : ∀ k q, k < j → O[k]? = some q → ahP r.1 r.2.1 q.1 q.2.1 = false) (h2 : ∀ q, O[j]? = some q → ahP r.1 r.2.1 q.1 q.2.1 = true) : spF O r = O.take j ++ r :: O.drop j := by
  unfold spF
  rw [spK_at h1 h2 O.length (Nat.le_refl _)]
  by_cases h : j < O.length
  · rw [if_pos h, if_pos rfl, List.take_length]
  · rw [if_neg h, if_neg (by simp), List.take_length, List.drop_of_length_le (by omega), show O.take j = O from List.take_of_length_le (by omega)]
theorem ahP_anti {a b c d : Int} (h : ahP a b c d = true) : ahP c d a b = false := by
  rw [Bool.eq_false_iff, ne_eq]
  intro h2
  rw [ahP_iff] at h h2
  omega
theorem plc_spec : ∀ (L : List Rt) (pn pl : Int), (∀ k q, k < plc L pn pl → L[k]? = some q → ahP q.1 q.2.1 pn pl = true) ∧ (∀ q, L[plc L pn pl]? = some q → ahP q.1 q.2.1 pn pl = false)
  | [], _, _ => ⟨fun k q h => by simp [plc] at h, fun q h => by simp at h⟩
  | r :: L, pn, pl => by
    have ih := plc_spec L pn pl
    by_cases h : ahP r.1 r.2.1 pn pl = true
    · have e : plc (r :: L) pn pl = plc L pn pl + 1 := by show (if _ then _ else _) = _; rw [if_pos h]
      rw [e]
      refine ⟨fun k q hk hq => ?_, fun q hq => ih.2 q (by simpa using hq)⟩
      rcases k with _ | k
      · simp at hq; subst hq; exact h
      · exact ih.1 k q (by omega) (by simpa using hq)
    · have e : plc (r :: L) pn pl = 0 := by show (if _ then _ else _) = _; rw [if_neg h]
      rw [e]
      refine ⟨fun k q hk => by omega, fun q hq => ?_⟩
      simp at hq
      subst hq
      simpa using h
/-- The model's way of putting comes to the place. -/
theorem spF_ins {L : List Rt} {r : Rt} (hs : Srt L) : spF (L.filter (notP r.1 r.2.1)) r = insR L r := by
  have hp := plc_spec L r.1 r.2.1
  have hle := plc_le L r.1 r.2.1
  rw [less_eq L r.1 r.2.1 hs]
  by_cases hf : fndB L r.1 r.2.1 = true
  · have hlt := fndB_lt hf
    rw [if_pos hf]
    obtain ⟨a, b, c, hq⟩ := at_of_lt hlt
    have hab : a = r.1 ∧ b = r.2.1 := by rw [fndB_at hq, Bool.and_eq_true, decide_eq_true_iff, decide_eq_true_iff] at hf; exact hf
    rw [spF_at (j := plc L r.1 r.2.1) (by rw [List.length_eraseIdx, if_pos hlt]; omega)]
    · unfold insR
      rw [if_pos hf, List.eraseIdx_eq_take_drop_succ]
      have hl : (L.take (plc L r.1 r.2.1)).length = plc L r.1 r.2.1 := by rw [List.length_take]; omega
      rw [List.take_append_of_le_length (by omega), List.take_of_length_le (by omega : (L.take (plc L r.1 r.2.1)).length ≤ _), List.drop_append_of_le_length (by omega), List.drop_of_length_le (by omega : (L.take (plc L r.1 r.2.1)).length ≤ _)]
      rfl
    · intro k q hk hq2
      rw [List.getElem?_eraseIdx_of_lt hk] at hq2
      exact ahP_anti (hp.1 k q hk hq2)
    · intro q hq2
      rw [List.getElem?_eraseIdx_of_ge (Nat.le_refl _)] at hq2
      have := hs _ _ _ _ (Nat.lt_succ_self _) hq hq2
      unfold ahd at this
      rw [← hab.1, ← hab.2]
      exact this
  · rw [if_neg hf]
    rw [Bool.not_eq_true] at hf
    rw [insR_no hf]
    refine spF_at hle (fun k q hk hq => ahP_anti (hp.1 k q hk hq)) (fun q hq => ?_)
    have h1 := hp.2 q hq
    rw [fndB_at hq, Bool.and_eq_false_iff, decide_eq_false_iff_not, decide_eq_false_iff_not] at hf
    rw [Bool.eq_false_iff, ne_eq, ahP_iff] at h1
    rw [ahP_iff]
    omega
theorem put_yes {L : List Rt} {r : Rt} (h1 : tok L = true) (h2 : tok (insR L r) = true) : putL L r = insR L r ∧ putB L r = true := ⟨if_pos ⟨h1, h2⟩, by unfold putB; rw [h1, h2]; rfl⟩
theorem put_no {L : List Rt} {r : Rt} (h1 : tok L = true) (h2 : tok (insR L r) = false) : putL L r = L ∧ putB L r = false := ⟨if_neg (by rw [h2]; simp), by unfold putB; rw [h1, h2]; rfl⟩
theorem put_bad {L : List Rt} {r : Rt} (h1 : tok L = false) : putL L r = L ∧ putB L r = false := ⟨if_neg (by rw [h1]; simp), by unfold putB; rw [h1]; rfl⟩

end Go.Proofs.Ytgdnfglhlpnooaa
