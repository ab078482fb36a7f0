/- Mathematics of lookups: what putting a route changes, and that dropping it again restores the table. -/
import Derived.Test.YtgdnfglhlpnooaaQn
import Derived.Test.YtgdnfglhlpnooaaBl
namespace Go.Proofs.Ytgdnfglhlpnooaa

theorem insR_cut {L : List Rt} {r q : Rt} (h : q ∈ insR L r) : q = r ∨ q ∈ L := by
  unfold insR at h
  rcases List.mem_append.1 h with h | h
  · exact Or.inr (List.mem_of_mem_take h)
  · rcases List.mem_cons.1 h with h | h
    · exact Or.inl h
    · exact Or.inr (List.mem_of_mem_drop h)
theorem insR_self (L : List Rt) (r : Rt) : r ∈ insR L r := by unfold insR; simp
theorem insR_keep {L : List Rt} {r q : Rt} (h : q ∈ L) (hn : ¬ (q.1 = r.1 ∧ q.2.1 = r.2.1)) : q ∈ insR L r := by
  unfold insR
  obtain ⟨j, hj⟩ := List.getElem?_of_mem h
  by_cases h1 : j < plc L r.1 r.2.1
  · exact List.mem_append.2 (Or.inl (List.mem_of_getElem? (i := j) (by rw [List.getElem?_take_of_lt h1]; exact hj)))
  · refine List.mem_append.2 (Or.inr (List.mem_cons.2 (Or.inr ?_)))
    by_cases hf : fndB L r.1 r.2.1 = true
    · rw [if_pos hf]
      have hne : j ≠ plc L r.1 r.2.1 := by
        intro e
        rw [e] at hj
        have := fndB_at hj
        rw [hf] at this
        have := this.symm
        rw [Bool.and_eq_true, decide_eq_true_eq, decide_eq_true_eq] at this
        exact hn this
      exact List.mem_of_getElem? (i := j - (plc L r.1 r.2.1 + 1)) (by rw [List.getElem?_drop]; rw [show plc L r.1 r.2.1 + 1 + (j - (plc L r.1 r.2.1 + 1)) = j by omega]; exact hj)
    · rw [if_neg hf]
      exact List.mem_of_getElem? (i := j - (plc L r.1 r.2.1 + 0)) (by rw [List.getElem?_drop]; rw [show plc L r.1 r.2.1 + 0 + (j - (plc L r.1 r.2.1 + 0)) = j by omega]; exact hj)

theorem best_full (L : List Rt) (a : Int) : lastH L a L.length = L.reverse.find? fun r => hasR r a := by unfold lastH; rw [List.take_length]
theorem ahd_not_self {p q : Rt} (h1 : p.1 = q.1) (h2 : p.2.1 = q.2.1) : ahd p q = false := by
  unfold ahd ahP; rw [h1, h2]; simp
theorem srt_eq {L : List Rt} (hs : Srt L) {p q : Rt} (hp : p ∈ L) (hq : q ∈ L) (h1 : p.1 = q.1) (h2 : p.2.1 = q.2.1) : p = q := by
  obtain ⟨i, hi⟩ := List.getElem?_of_mem hp
  obtain ⟨j, hj⟩ := List.getElem?_of_mem hq
  rcases Nat.lt_trichotomy i j with h | h | h
  · have := hs i j p q h hi hj; rw [ahd_not_self h1 h2] at this; cases this
  · rw [h, hj] at hi; injection hi with e; exact e.symm
  · have := hs j i q p h hj hi; rw [ahd_not_self h1.symm h2.symm] at this; cases this
theorem best_none {L : List Rt} {a : Int} (h : lastH L a L.length = none) : ∀ q ∈ L, hasR q a = false := by
  rw [best_full] at h
  intro q hq
  have := List.find?_eq_none.1 h q (List.mem_reverse.2 hq)
  simpa using this
theorem best_some {L : List Rt} (ht : tok L = true) {a : Int} {b : Rt} (h : lastH L a L.length = some b) : b ∈ L ∧ hasR b a = true ∧ ∀ q ∈ L, hasR q a = true → q.2.1 ≤ b.2.1 := by
  rw [best_full] at h
  obtain ⟨hb, l1, l2, e, hn⟩ := List.find?_eq_some_iff_append.1 h
  have e' : L = l2.reverse ++ b :: l1.reverse := by
    have := congrArg List.reverse e
    rw [List.reverse_reverse] at this
    rw [this]; simp
  have hm : b ∈ L := by rw [e']; simp
  refine ⟨hm, hb, fun q hq ha => ?_⟩
  have hq' := hq
  rw [e'] at hq'
  rcases List.mem_append.1 hq' with h1 | h1
  · obtain ⟨i, hi⟩ := List.getElem?_of_mem h1
    have hl : i < l2.reverse.length := by
      rcases Nat.lt_or_ge i l2.reverse.length with h | h
      · exact h
      · rw [List.getElem?_eq_none h] at hi; cases hi
    have hsr := tok_srt ht i l2.reverse.length q b hl (by rw [e', List.getElem?_append_left hl]; exact hi) (by rw [e', List.getElem?_append_right (Nat.le_refl _)]; simp)
    have := ahd_short (tok_pok ht q hq) (tok_pok ht b hm) ha hb hsr
    omega
  · rcases List.mem_cons.1 h1 with h1 | h1
    · rw [h1]; exact Int.le_refl _
    · have := hn q (List.mem_reverse.1 h1)
      rw [ha] at this; cases this
theorem has_net {p q : Rt} {a : Int} (hp : pokB p.1 p.2.1 = true) (hq : pokB q.1 q.2.1 = true) (ha : hasR p a = true) (hb : hasR q a = true) (h : p.2.1 = q.2.1) : p.1 = q.1 := by
  unfold hasR at ha hb
  rw [inB_iff] at ha hb
  obtain ⟨_, _, _, _, p4⟩ := pokB_true hp
  obtain ⟨_, _, _, _, q4⟩ := pokB_true hq
  rw [h] at p4 ha
  rcases Int.lt_trichotomy p.1 q.1 with h | h | h
  · have := apart_le _ _ _ p4 q4 h; omega
  · exact h
  · have := apart_le _ _ _ q4 p4 h; omega
theorem best_of {L : List Rt} (ht : tok L = true) {a : Int} {c : Rt} (hc : c ∈ L) (ha : hasR c a = true) (hm : ∀ q ∈ L, hasR q a = true → q.2.1 ≤ c.2.1) : lastH L a L.length = some c := by
  cases e : lastH L a L.length with
  | none => have := best_none e c hc; rw [ha] at this; cases this
  | some b =>
    obtain ⟨h1, h2, h3⟩ := best_some ht e
    have hl : b.2.1 = c.2.1 := Int.le_antisymm (hm b h1 h2) (h3 c hc ha)
    rw [srt_eq (tok_srt ht) h1 hc (has_net (tok_pok ht b h1) (tok_pok ht c hc) h2 ha hl) hl]
theorem best_no {L : List Rt} {a : Int} (h : ∀ q ∈ L, hasR q a = false) : lastH L a L.length = none := by
  rw [best_full]
  refine List.find?_eq_none.2 fun q hq => ?_
  rw [h q (List.mem_reverse.1 hq)]; simp

theorem hasR_same {p q : Rt} (a : Int) (h1 : p.1 = q.1) (h2 : p.2.1 = q.2.1) : hasR p a = hasR q a := by unfold hasR; rw [h1, h2]
theorem bestO_in {L : List Rt} (ht : tok L = true) {a : Int} (ha : inB a 0 65535 = true) : bestO L a = lastH L a L.length := by unfold bestO; rw [if_pos ⟨ht, ha⟩]
/- what putting a route changes: the lookups of the addresses that it has, where no longer prefix has them -/
theorem look_put {L : List Rt} {r : Rt} (ht : tok L = true) (hu : tok (insR L r) = true) {a : Int} (ha : inB a 0 65535 = true) :
    hopO (bestO (insR L r) a) = if hasR r a = true ∧ (bestO L a = none ∨ (optR (bestO L a)).2.1 ≤ r.2.1) then r.2.2 else hopO (bestO L a) := by
  rw [bestO_in ht ha, bestO_in hu ha]
  cases hr : hasR r a with
  | false =>
    rw [if_neg (by simp)]
    cases e : lastH L a L.length with
    | none =>
      rw [best_no (L := insR L r) (a := a) fun q hq => by
        rcases insR_cut hq with h | h
        · rw [h]; exact hr
        · exact best_none e q h]
    | some b =>
      obtain ⟨h1, h2, h3⟩ := best_some ht e
      rw [best_of hu (insR_keep h1 fun hh => by rw [hasR_same a hh.1 hh.2, hr] at h2; cases h2) h2 fun q hq hqa => by
        rcases insR_cut hq with h | h
        · rw [h, hr] at hqa; cases hqa
        · exact h3 q h hqa]
  | true =>
    cases e : lastH L a L.length with
    | none =>
      rw [if_pos ⟨rfl, Or.inl rfl⟩, best_of hu (insR_self L r) hr fun q hq hqa => by
        rcases insR_cut hq with h | h
        · rw [h]; exact Int.le_refl _
        · rw [best_none e q h] at hqa; cases hqa]
      rfl
    | some b =>
      obtain ⟨h1, h2, h3⟩ := best_some ht e
      by_cases hl : b.2.1 ≤ r.2.1
      · rw [if_pos ⟨rfl, Or.inr hl⟩, best_of hu (insR_self L r) hr fun q hq hqa => by
          rcases insR_cut hq with h | h
          · rw [h]; exact Int.le_refl _
          · exact Int.le_trans (h3 q h hqa) hl]
        rfl
      · rw [if_neg (fun hh => by rcases hh.2 with h | h; { cases h }; { exact hl h })]
        rw [best_of hu (insR_keep h1 fun hh => by have := hh.2; omega) h2 fun q hq hqa => by
          rcases insR_cut hq with h | h
          · rw [h]; omega
          · exact h3 q h hqa]

theorem plc_ins {L : List Rt} {r : Rt} : plc (insR L r) r.1 r.2.1 = plc L r.1 r.2.1 := by
  have hle := plc_le L r.1 r.2.1
  have hlt : (L.take (plc L r.1 r.2.1)).length = plc L r.1 r.2.1 := by rw [List.length_take]; omega
  refine plc_uniq _ _ _ _ ?_ ?_ ?_
  · unfold insR; rw [List.length_append, hlt]; omega
  · intro k q hk hq
    unfold insR at hq
    rw [List.getElem?_append_left (by omega), List.getElem?_take_of_lt hk] at hq
    exact (plc_spec L r.1 r.2.1).1 k q hk hq
  · intro q hq
    unfold insR at hq
    rw [List.getElem?_append_right (by omega), hlt, Nat.sub_self] at hq
    simp at hq
    rw [← hq]
    unfold ahP; simp
theorem ins_at {L : List Rt} {r : Rt} : (insR L r)[plc L r.1 r.2.1]? = some r := by
  have hle := plc_le L r.1 r.2.1
  have hlt : (L.take (plc L r.1 r.2.1)).length = plc L r.1 r.2.1 := by rw [List.length_take]; omega
  unfold insR
  rw [List.getElem?_append_right (by omega), hlt, Nat.sub_self]; rfl
theorem fnd_ins {L : List Rt} {r : Rt} : fndB (insR L r) r.1 r.2.1 = true := by
  rw [fndB_at (r := r) (by rw [plc_ins]; exact ins_at)]; simp
theorem drop_put {L : List Rt} {r : Rt} (hu : tok (insR L r) = true) : drpB (insR L r) r.1 r.2.1 = true ∧ (fndB L r.1 r.2.1 = false → drpL (insR L r) r.1 r.2.1 = L) := by
  obtain ⟨h1, h2, _, _⟩ := drp_yes hu (fnd_ins (L := L) (r := r))
  refine ⟨h2, fun hf => ?_⟩
  rw [h1, plc_ins, insR_no hf]
  have hle := plc_le L r.1 r.2.1
  have hlt : (L.take (plc L r.1 r.2.1)).length = plc L r.1 r.2.1 := by rw [List.length_take]; omega
  rw [List.eraseIdx_append_of_length_le (by omega), hlt, Nat.sub_self]
  simp
theorem fresh_iff {L : List Rt} (hs : Srt L) {pn pl : Int} : fndB L pn pl = false ↔ ∀ q ∈ L, ¬ (q.1 = pn ∧ q.2.1 = pl) := by
  constructor
  · intro h q hq
    have e := less_eq L pn pl hs
    rw [if_neg (by rw [h]; simp)] at e
    exact notP_iff.1 (List.filter_eq_self.1 e q hq)
  · intro h
    cases e : fndB L pn pl with
    | false => rfl
    | true =>
      have hl := fndB_lt e
      have ha := List.getElem?_eq_getElem hl
      rw [fndB_at ha, Bool.and_eq_true, decide_eq_true_eq, decide_eq_true_eq] at e
      exact absurd e (h _ (List.getElem_mem hl))
end Go.Proofs.Ytgdnfglhlpnooaa
