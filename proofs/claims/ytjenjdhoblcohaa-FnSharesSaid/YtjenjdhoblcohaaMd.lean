/- Plain mathematics of shortest paths: trails of a graph, the preferred ones, and the search that finds them. It imports no program. -/
import Derived.Test.YtjenjdhoblcohaaMh
import Derived.Test.YtjenjdhoblcohaaMg
namespace Go.Proofs.Ytjenjdhoblcohaa

def lastN (t : Tr) : Int := t.2.getLastD 0
/-- A trail and one node more. -/
def extT (L : List Ed) (t : Tr) (y : Int) : Tr := (t.1 + cst L (lastN t) y, t.2 ++ [y])
theorem lastN_ext (L : List Ed) (t : Tr) (y : Int) : lastN (extT L t y) = y := by unfold lastN extT; simp
inductive IsTr (L : List Ed) (s : Int) : Tr → Prop
  | one : IsTr L s (0, [s])
  | ext (t : Tr) (y : Int) : IsTr L s t → cst L (lastN t) y ≠ Far → IsTr L s (extT L t y)
def Best (L : List Ed) (s : Int) (t : Tr) : Prop := IsTr L s t ∧ ∀ u, IsTr L s u → lastN u = lastN t → leT t u
theorem lexB_snoc : ∀ (a b : List Int) (y : Int), a.length = b.length → lexB (a ++ [y]) (b ++ [y]) = lexB a b
  | [], [], y, _ => by simp [lexB]
  | [], _ :: _, _, h => by simp at h
  | _ :: _, [], _, h => by simp at h
  | x :: as, z :: bs, y, h => by simp only [List.cons_append, lexB]; rw [lexB_snoc as bs y (by simpa using h)]
theorem leT_ext {L : List Ed} {t u : Tr} {y : Int} (h : leT t u) (he : lastN t = lastN u) : leT (extT L t y) (extT L u y) := by
  unfold leT at *
  rw [← h]
  unfold ltB extT
  simp only [List.length_append, List.length_cons, List.length_nil]
  rw [he]
  have e1 : decide (u.1 + cst L (lastN u) y < t.1 + cst L (lastN u) y) = decide (u.1 < t.1) := decide_eq_decide.2 (by omega)
  have e2 : decide (u.1 + cst L (lastN u) y = t.1 + cst L (lastN u) y) = decide (u.1 = t.1) := decide_eq_decide.2 (by omega)
  have e3 : decide (u.2.length + (0 + 1) < t.2.length + (0 + 1)) = decide (u.2.length < t.2.length) := decide_eq_decide.2 (by omega)
  have e4 : decide (u.2.length + (0 + 1) = t.2.length + (0 + 1)) = decide (u.2.length = t.2.length) := decide_eq_decide.2 (by omega)
  rw [e1, e2, e3, e4]
  by_cases hl : u.2.length = t.2.length
  · rw [lexB_snoc _ _ _ hl]
  · rw [decide_eq_false hl, Bool.false_and, Bool.false_and]
theorem ltB_cost {t u : Tr} (h : t.1 < u.1) : ltB t u = true := by unfold ltB; rw [decide_eq_true h, Bool.true_or]
theorem leT_grow {N : Int} {L : List Ed} (hG : gok N L = true) (t : Tr) (y : Int) : leT t (extT L t y) := by
  have := (cst_bound hG (lastN t) y).1
  exact leT_of_lt (ltB_cost (by show t.1 < t.1 + _; omega))
theorem leT_cost {t u : Tr} (h : leT t u) : t.1 ≤ u.1 := by
  unfold leT at h
  by_cases h' : u.1 < t.1
  · rw [ltB_cost h'] at h; exact absurd h (by decide)
  · omega

/-- The search: P has been taken, Hm lies open. -/
structure DSt (L : List Ed) (s : Int) (P : List Tr) (Hm : Tr → Prop) : Prop where
  best : ∀ t ∈ P, Best L s t
  tr : ∀ t, Hm t → IsTr L s t
  src : (∀ t ∈ P, lastN t ≠ s) → Hm (0, [s])
  edge : ∀ t ∈ P, ∀ y, cst L (lastN t) y ≠ Far → (∀ u ∈ P, lastN u ≠ y) → Hm (extT L t y)
  mono : ∀ t ∈ P, ∀ u, Hm u → leT t u
  dist : P.Pairwise (fun t u => lastN t ≠ lastN u)
  sort : P.Pairwise leT
theorem DSt.start (L : List Ed) (s : Int) (Hm : Tr → Prop) (h : ∀ t, Hm t ↔ t = (0, [s])) : DSt L s [] Hm where
  best t ht := by cases ht
  tr t ht := by rw [(h t).1 ht]; exact .one
  src _ := (h _).2 rfl
  edge t ht := by cases ht
  mono t ht := by cases ht
  dist := .nil
  sort := .nil
theorem DSt.reach {N : Int} {L : List Ed} {s : Int} {P : List Tr} {Hm : Tr → Prop} (hG : gok N L = true) (h : DSt L s P Hm) : ∀ u, IsTr L s u → (∃ t ∈ P, lastN t = lastN u) ∨ ∃ v, Hm v ∧ leT v u := by
  intro u hu
  induction hu with
  | one =>
    by_cases hs : ∃ t ∈ P, lastN t = s
    · exact .inl hs
    · exact .inr ⟨_, h.src (fun t ht e => hs ⟨t, ht, e⟩), leT_pre.refl _⟩
  | ext u y hu hc ih =>
    rcases ih with ⟨t, ht, he⟩ | ⟨v, hv, hl⟩
    · by_cases hy : ∃ t ∈ P, lastN t = y
      · left; rw [lastN_ext]; exact hy
      · right
        exact ⟨extT L t y, h.edge t ht y (by rw [he]; exact hc) (fun t' ht' e => hy ⟨t', ht', e⟩), leT_ext ((h.best t ht).2 u hu he.symm) he⟩
    · exact .inr ⟨v, hv, leT_pre.trans _ _ _ hl (leT_grow hG u y)⟩
theorem DSt.min_best {N : Int} {L : List Ed} {s : Int} {P : List Tr} {Hm : Tr → Prop} {m : Tr} (hG : gok N L = true) (h : DSt L s P Hm) (hm : Hm m) (hmin : ∀ v, Hm v → leT m v) (hn : ∀ t ∈ P, lastN t ≠ lastN m) : Best L s m := by
  refine ⟨h.tr m hm, fun u hu he => ?_⟩
  rcases h.reach hG u hu with ⟨t, ht, e⟩ | ⟨v, hv, hl⟩
  · exact absurd (e.trans he) (hn t ht)
  · exact leT_pre.trans _ _ _ (hmin v hv) hl
/-- One that comes to a node that has been reached is dropped. -/
theorem DSt.skip {L : List Ed} {s : Int} {P : List Tr} {Hm Hm' : Tr → Prop} {m : Tr} (h : DSt L s P Hm) (hr : ∃ t ∈ P, lastN t = lastN m) (h1 : ∀ v, Hm v → v = m ∨ Hm' v) (h2 : ∀ v, Hm' v → Hm v) : DSt L s P Hm' where
  best := h.best
  tr t ht := h.tr t (h2 t ht)
  src hs := by
    rcases h1 _ (h.src hs) with e | e
    · obtain ⟨t, ht, e'⟩ := hr
      rw [← e] at e'
      exact absurd e' (hs t ht)
    · exact e
  edge t ht y hc hy := by
    rcases h1 _ (h.edge t ht y hc hy) with e | e
    · obtain ⟨t', ht', e'⟩ := hr
      rw [← e, lastN_ext] at e'
      exact absurd e' (hy t' ht')
    · exact e
  mono t ht u hu := h.mono t ht u (h2 u hu)
  dist := h.dist
  sort := h.sort
/-- One that comes to a new node is taken, and what goes on from there lies open. -/
theorem DSt.take {N : Int} {L : List Ed} {s : Int} {P : List Tr} {Hm Hm' : Tr → Prop} {m : Tr} (hG : gok N L = true) (h : DSt L s P Hm) (hm : Hm m) (hmin : ∀ v, Hm v → leT m v) (hn : ∀ t ∈ P, lastN t ≠ lastN m)
    (h1 : ∀ v, Hm v → v = m ∨ Hm' v) (h2 : ∀ v, Hm' v → Hm v ∨ ∃ y, cst L (lastN m) y ≠ Far ∧ v = extT L m y) (h3 : ∀ y, cst L (lastN m) y ≠ Far → (∀ t ∈ P, lastN t ≠ y) → lastN m ≠ y → Hm' (extT L m y)) : DSt L s (P ++ [m]) Hm' where
  best t ht := by
    rw [List.mem_append, List.mem_singleton] at ht
    rcases ht with ht | rfl
    · exact h.best t ht
    · exact h.min_best hG hm hmin hn
  tr v hv := by
    rcases h2 v hv with hv | ⟨y, hy, rfl⟩
    · exact h.tr v hv
    · exact .ext _ _ (h.tr m hm) hy
  src hs := by
    have hs' : ∀ t ∈ P, lastN t ≠ s := fun t ht => hs t (List.mem_append_left _ ht)
    rcases h1 _ (h.src hs') with e | e
    · have := hs m (by simp)
      rw [← e] at this
      exact absurd rfl this
    · exact e
  edge t ht y hc hy := by
    have hy' : ∀ u ∈ P, lastN u ≠ y := fun u hu => hy u (List.mem_append_left _ hu)
    have hym : lastN m ≠ y := hy m (by simp)
    rw [List.mem_append, List.mem_singleton] at ht
    rcases ht with ht | rfl
    · rcases h1 _ (h.edge t ht y hc hy') with e | e
      · rw [← e, lastN_ext] at hym; exact absurd rfl hym
      · exact e
    · exact h3 y hc hy' hym
  mono t ht u hu := by
    have hmu : leT m u := by
      rcases h2 u hu with hu | ⟨y, _, rfl⟩
      · exact hmin u hu
      · exact leT_grow hG m y
    rw [List.mem_append, List.mem_singleton] at ht
    rcases ht with ht | rfl
    · exact leT_pre.trans _ _ _ (h.mono t ht m hm) hmu
    · exact hmu
  dist := by
    rw [List.pairwise_append]
    exact ⟨h.dist, List.pairwise_singleton _ _, fun t ht u hu => by rw [List.mem_singleton] at hu; subst hu; exact hn t ht⟩
  sort := by
    rw [List.pairwise_append]
    exact ⟨h.sort, List.pairwise_singleton _ _, fun t ht u hu => by rw [List.mem_singleton] at hu; subst hu; exact h.mono t ht _ hm⟩

/-- What the search comes to. -/
structure Found (L : List Ed) (s : Int) (P : List Tr) : Prop where
  best : ∀ t ∈ P, Best L s t
  all : ∀ u, IsTr L s u → ∃ t ∈ P, lastN t = lastN u
  dist : P.Pairwise (fun t u => lastN t ≠ lastN u)
  sort : P.Pairwise leT
theorem DSt.found {N : Int} {L : List Ed} {s : Int} {P : List Tr} {Hm : Tr → Prop} (hG : gok N L = true) (h : DSt L s P Hm) (he : ∀ v, ¬ Hm v) : Found L s P :=
  ⟨h.best, fun u hu => by
    rcases h.reach hG u hu with hr | ⟨v, hv, _⟩
    · exact hr
    · exact absurd hv (he v), h.dist, h.sort⟩

/-! Bounds -/
theorem IsTr.bounds {N : Int} {L : List Ed} {s : Int} (hG : gok N L = true) (hs : 0 ≤ s ∧ s < N) {t : Tr} (h : IsTr L s t) : 0 < t.2.length ∧ 0 ≤ t.1 ∧ t.1 ≤ 1000 * (t.2.length - 1 : Nat) ∧ (0 ≤ lastN t ∧ lastN t < N) ∧ ∀ x ∈ t.2, 0 ≤ x ∧ x < N := by
  induction h with
  | one => exact ⟨by simp, by simp, by simp, by simpa [lastN] using hs, fun x hx => by rw [List.mem_singleton] at hx; subst hx; exact hs⟩
  | ext t y ht hc ih =>
    obtain ⟨h1, h2, h3, h4, h5⟩ := ih
    have hn := cst_near hG hc
    have hb := cst_bound hG (lastN t) y
    refine ⟨by simp [extT], by show 0 ≤ t.1 + _; omega, ?_, by rw [lastN_ext]; exact hn.2.1, fun x hx => ?_⟩
    · show t.1 + cst L (lastN t) y ≤ 1000 * ((t.2 ++ [y]).length - 1 : Nat)
      rw [List.length_append, List.length_singleton]
      have := hn.2.2.2
      omega
    · rw [show (extT L t y).2 = t.2 ++ [y] from rfl, List.mem_append, List.mem_singleton] at hx
      rcases hx with hx | rfl
      · exact h5 x hx
      · exact hn.2.1
end Go.Proofs.Ytjenjdhoblcohaa
