/- Plain mathematics: the next hops, gathered along the trails. It imports no program. -/
import Derived.Test.YtjenjdhoblcohaaMp
namespace Go.Proofs.Ytjenjdhoblcohaa

/-- The sets behind a step: what leads to its first node leads to its second. -/
def stH (s : Int) (F : Int → Int → Bool) (p : Int × Int) : Int → Int → Bool := fun y z => if y = p.2 then F y z || (F p.1 z || (decide (p.1 = s) && decide (z = y))) else F y z
theorem fold_stH (s y : Int) : ∀ (R : List (Int × Int)) (F : Int → Int → Bool), (∀ p ∈ R, p.2 = y ∧ p.1 ≠ y) →
    (∀ y' z, y' ≠ y → (R.foldl (stH s) F) y' z = F y' z) ∧ ∀ z, (R.foldl (stH s) F) y z = (F y z || R.any fun p => F p.1 z || (decide (p.1 = s) && decide (z = y)))
  | [], F, _ => ⟨fun _ _ _ => rfl, fun z => by simp⟩
  | p :: R, F, h => by
    obtain ⟨hp, hR⟩ := List.forall_mem_cons.1 h
    obtain ⟨h1, h2⟩ := fold_stH s y R (stH s F p) hR
    have e1 : ∀ y' z, y' ≠ y → stH s F p y' z = F y' z := fun y' z hn => by
      unfold stH
      rw [if_neg (by rw [hp.1]; exact hn)]
    refine ⟨fun y' z hn => by rw [List.foldl_cons, h1 y' z hn, e1 y' z hn], fun z => ?_⟩
    have e2 : (R.any fun q => stH s F p q.1 z || (decide (q.1 = s) && decide (z = y))) = R.any fun q => F q.1 z || (decide (q.1 = s) && decide (z = y)) := by
      apply Bool.eq_iff_iff.2
      simp only [List.any_eq_true]
      constructor
      · rintro ⟨q, hq, hz⟩
        exact ⟨q, hq, by rw [e1 _ _ (hR q hq).2] at hz; exact hz⟩
      · rintro ⟨q, hq, hz⟩
        exact ⟨q, hq, by rw [e1 _ _ (hR q hq).2]; exact hz⟩
    rw [List.foldl_cons, h2 z, e2, List.any_cons]
    have e3 : stH s F p y z = (F y z || (F p.1 z || (decide (p.1 = s) && decide (z = y)))) := by
      unfold stH
      rw [if_pos hp.1.symm]
    rw [e3, Bool.or_assoc]
/-- A shortest way has a last edge. -/
theorem tfP.exists {N : Int} {L : List Ed} {z y : Int} (hG : gok N L = true) (hz : 0 ≤ z ∧ z < N) (hzy : z ≠ y) (h : dsT N L z y ≠ Far) : ∃ x, tfP N L z x y := by
  rcases dsT_tr hG (s := z) y with e | ⟨t, h1, h2, h3⟩
  · exact absurd e h
  · cases h1 with
    | one =>
      exact absurd (by rw [← h2]; simp [lastN]) hzy
    | ext t' y' h4 h5 =>
      rw [lastN_ext] at h2
      subst h2
      have g1 := dsT_le hG hz h4
      have g2 := h4.dsT_small hG hz
      have g3 : dsT N L z (lastN t') ≠ Far := by unfold Far; omega
      have g4 := dsT_on hG hz g3 h5
      have e : (extT L t' y').1 = t'.1 + cst L (lastN t') y' := rfl
      rw [e] at h3
      exact ⟨lastN t', h5, g3, by omega⟩
/-- What holds behind the first i trails. -/
structure HS (N : Int) (L : List Ed) (s : Int) (P : List Tr) (i : Nat) (F : Int → Int → Bool) : Prop where
  eq : ∀ q t, q < i → P[q]? = some t → ∀ z, F (lastN t) z = decide (tgP N L (lastN t) s z)
  out : ∀ y, (∀ q t, q < i → P[q]? = some t → lastN t ≠ y) → ∀ z, F y z = false
theorem HS.start (N : Int) (L : List Ed) (s : Int) (P : List Tr) : HS N L s P 0 (fun _ _ => false) where
  eq _ _ hq := absurd hq (Nat.not_lt_zero _)
  out _ _ _ := rfl
/-- A hop to y is y itself, an edge away from s, or a hop to a node ahead of y. -/
theorem hop_iff {N : Int} {L : List Ed} {s y z : Int} (hG : gok N L = true) (hs : 0 ≤ s ∧ s < N) (hy : 0 ≤ y ∧ y < N) : tgP N L y s z ↔ ∃ x, tfP N L s x y ∧ ((x = s ∧ z = y) ∨ tgP N L x s z) := by
  constructor
  · intro h
    obtain ⟨hc, hd, he⟩ := h
    have hn := cst_near hG hc
    have hz := hn.2.1
    have hsy := dsT_pre hG hd hc
    by_cases hzy : z = y
    · subst hzy
      have h0 := dsT_self (L := L) hG hz
      have hss := dsT_self (L := L) hG hs
      exact ⟨s, ⟨hc, by rw [hss]; decide, by omega⟩, .inl ⟨rfl, rfl⟩⟩
    · obtain ⟨x, h1, h2, h3⟩ := tfP.exists hG hz hzy hd
      have g1 := dsT_pre hG h2 hc
      have g2 : dsT N L s x ≠ Far := by unfold Far; omega
      have g3 := dsT_on hG hs g2 h1
      exact ⟨x, ⟨h1, g2, by omega⟩, .inr ⟨hc, h2, by omega⟩⟩
  · rintro ⟨x, ⟨h1, h2, h3⟩, ⟨rfl, rfl⟩ | ⟨hc, hd, he⟩⟩
    · have h0 := dsT_self (L := L) hG hy
      have hss := dsT_self (L := L) hG hs
      exact ⟨h1, by rw [h0]; decide, by omega⟩
    · have hn := cst_near hG hc
      have g1 := dsT_on hG hn.2.1 hd h1
      have g2 : dsT N L z y ≠ Far := by unfold Far; omega
      have g3 := dsT_pre hG g2 hc
      exact ⟨hc, g2, by omega⟩
theorem HS.step {N : Int} {L : List Ed} {s : Int} {P : List Tr} {i : Nat} {F : Int → Int → Bool} {t : Tr} (hG : gok N L = true) (hs : 0 ≤ s ∧ s < N) (h : Found L s P) (hi : P[i]? = some t) (g : HS N L s P i F) :
    HS N L s P (i + 1) ((rowS L t (P.take i)).foldl (stH s) F) := by
  have htP : t ∈ P := List.mem_of_getElem? hi
  have hN := gok_parts hG
  have hmem : ∀ {u : Tr}, u ∈ P.take i → ∃ q, q < i ∧ P[q]? = some u := fun {u} hu => by
    obtain ⟨q, hq, e⟩ := List.mem_iff_getElem.1 hu
    have hq' : q < i := by rw [List.length_take] at hq; omega
    refine ⟨q, hq', ?_⟩
    rw [← List.getElem?_take_of_lt hq']
    rw [List.getElem?_eq_some_iff]; exact ⟨hq, e⟩
  have hne : ∀ u ∈ P.take i, lastN u ≠ lastN t := fun u hu => by
    obtain ⟨q, hq, e⟩ := hmem hu
    exact h.ne e hi (by omega)
  have hrow : ∀ p, p ∈ rowS L t (P.take i) ↔ ∃ u ∈ P.take i, u.1 + cst L (lastN u) (lastN t) = t.1 ∧ p = (lastN u, lastN t) := fun p => by
    unfold rowS
    rw [List.mem_map]
    constructor
    · rintro ⟨u, hu, rfl⟩
      obtain ⟨h1, h2⟩ := List.mem_filter.1 hu
      exact ⟨u, h1, by simpa using h2, rfl⟩
    · rintro ⟨u, hu, h2, rfl⟩
      exact ⟨u, List.mem_filter.2 ⟨hu, by simpa using h2⟩, rfl⟩
  obtain ⟨f1, f2⟩ := fold_stH s (lastN t) (rowS L t (P.take i)) F (fun p hp => by
    obtain ⟨u, hu, _, rfl⟩ := (hrow p).1 hp
    exact ⟨rfl, hne u hu⟩)
  have hty : 0 ≤ lastN t ∧ lastN t < N := ((h.best t htP).1.bounds hG hs).2.2.2.1
  have hdt := h.dis hG hs htP
  have hct := h.cost hG hs htP
  refine ⟨fun q u hq hu z => ?_, fun y hy z => ?_⟩
  · by_cases e : q = i
    · subst e
      rw [hi] at hu
      cases hu
      rw [f2 z, g.out (lastN t) (fun q' u' hq' hu' => h.ne hu' hi (by omega)) z, Bool.false_or]
      apply Bool.eq_iff_iff.2
      rw [List.any_eq_true, decide_eq_true_iff, hop_iff hG hs hty]
      constructor
      · rintro ⟨p, hp, hz⟩
        obtain ⟨u, hu, hc, rfl⟩ := (hrow p).1 hp
        obtain ⟨q', hq', hu'⟩ := hmem hu
        have huP := List.mem_of_getElem? hu'
        have hdu := h.dis hG hs huP
        have hcu := h.cost hG hs huP
        refine ⟨lastN u, ⟨?_, by rw [hdu]; unfold Far; omega, by omega⟩, ?_⟩
        · intro e
          rw [e] at hc
          unfold Far at hc
          omega
        · rw [Bool.or_eq_true, g.eq q' u hq' hu' z, decide_eq_true_iff, Bool.and_eq_true, decide_eq_true_iff, decide_eq_true_iff] at hz
          exact hz.symm
      · rintro ⟨x, ⟨h1, h2, h3⟩, hz⟩
        obtain ⟨u, huP, hux⟩ := h.all_dis hG h2
        subst hux
        obtain ⟨q', hu'⟩ := List.mem_iff_getElem?.1 huP
        have hdu := h.dis hG hs huP
        have hb := cst_bound hG (lastN u) (lastN t)
        have hq' : q' < q := by
          rcases Nat.lt_trichotomy q' q with hlt | he | hgt
          · exact hlt
          · subst he
            rw [hi] at hu'
            cases hu'
            rw [cst_self hG] at h1
            exact absurd rfl h1
          · have := h.le hi hu' hgt
            omega
        have hmem' : u ∈ P.take q := by
          rw [List.mem_iff_getElem?]
          exact ⟨q', by rw [List.getElem?_take_of_lt hq']; exact hu'⟩
        refine ⟨(lastN u, lastN t), (hrow _).2 ⟨u, hmem', by omega, rfl⟩, ?_⟩
        rw [Bool.or_eq_true, g.eq q' u hq' hu' z, decide_eq_true_iff, Bool.and_eq_true, decide_eq_true_iff, decide_eq_true_iff]
        exact hz.symm
    · rw [f1 _ z (h.ne hu hi e)]
      exact g.eq q u (by omega) hu z
  · rw [f1 y z (Ne.symm (hy i t (by omega) hi))]
    exact g.out y (fun q u hq hu => hy q u (by omega) hu) z
theorem HS.all {N : Int} {L : List Ed} {s : Int} {P : List Tr} (hG : gok N L = true) (hs : 0 ≤ s ∧ s < N) (h : Found L s P) : ∀ i, i ≤ P.length → HS N L s P i ((prsK L P i).foldl (stH s) (fun _ _ => false))
  | 0, _ => HS.start N L s P
  | i + 1, hi => by
    have e : P[i]? = some (P[i]'(by omega)) := List.getElem?_eq_getElem _
    rw [prsK_succ e, List.foldl_append]
    exact (HS.all hG hs h i (by omega)).step hG hs h e
/-- The sets in the end: the next hops. -/
theorem hops_all {N : Int} {L : List Ed} {s : Int} {P : List Tr} (hG : gok N L = true) (hs : 0 ≤ s ∧ s < N) (h : Found L s P) (o z : Int) : ((prs L P).foldl (stH s) (fun _ _ => false)) o z = decide (tgP N L o s z) := by
  have g := HS.all hG hs h P.length (Nat.le_refl _)
  show ((prsK L P P.length).foldl (stH s) (fun _ _ => false)) o z = _
  by_cases hd : dsT N L s o = Far
  · rw [g.out o (fun q t _ ht e => by
      have htP := List.mem_of_getElem? ht
      have h1 := h.dis hG hs htP
      have h2 := h.cost hG hs htP
      rw [e, hd] at h1
      unfold Far at h1
      omega) z]
    symm
    rw [decide_eq_false_iff_not]
    rintro ⟨hc, hz, _⟩
    have := dsT_pre hG hz hc
    unfold Far at hd
    omega
  · obtain ⟨t, ht, he⟩ := h.all_dis hG hd
    obtain ⟨q, hq⟩ := List.mem_iff_getElem?.1 ht
    have := g.eq q t (List.getElem?_eq_some_iff.1 hq).1 hq z
    rw [he] at this
    exact this

end Go.Proofs.Ytjenjdhoblcohaa
