/- Plain mathematics: what the search finds are the distances of the rounds; the trails that it finds go on from one another. It imports no program. -/
import Derived.Test.YtnpdbieadjgghaaGreatMb
namespace Go.Proofs.YtnpdbieadjgghaaGreat

/-- The model's table of distances. -/
def dsT (N : Int) (L : List Ed) (s : Int) : Int → Int := rounds L s N.toNat
theorem leT_anti {a b : Tr} (h1 : leT a b) (h2 : leT b a) : a = b := ltB_total _ _ h2 h1
theorem pw_at {α : Type} {R : α → α → Prop} {P : List α} (h : P.Pairwise R) {i j : Nat} {t u : α} (hi : P[i]? = some t) (hj : P[j]? = some u) (hij : i < j) : R t u := by
  obtain ⟨h1, rfl⟩ := List.getElem?_eq_some_iff.1 hi
  obtain ⟨h2, rfl⟩ := List.getElem?_eq_some_iff.1 hj
  exact List.pairwise_iff_getElem.1 h i j h1 h2 hij
/-- A trail that is found is the first one, or goes on from one found before it. -/
theorem Found.back {N : Int} {L : List Ed} {s : Int} {P : List Tr} (hG : gok N L = true) (h : Found L s P) {i : Nat} {t : Tr} (hi : P[i]? = some t) :
    t = (0, [s]) ∨ ∃ j u y, j < i ∧ P[j]? = some u ∧ cst L (lastN u) y ≠ Far ∧ t = extT L u y := by
  have hb := h.best t (List.mem_of_getElem? hi)
  obtain ⟨h1, h2⟩ := hb
  cases h1 with
  | one => exact .inl rfl
  | ext u y hu hc =>
    right
    obtain ⟨v, hv, he⟩ := h.all u hu
    obtain ⟨j, hj⟩ := List.mem_iff_getElem?.1 hv
    have hvb := h.best v hv
    have hl := hvb.2 u hu he.symm
    have hcb := (cst_bound hG (lastN u) y).1
    have hc1 := leT_cost hl
    have hlt : v.1 < (extT L u y).1 := by show v.1 < u.1 + cst L (lastN u) y; omega
    refine ⟨j, v, y, ?_, hj, by rw [he]; exact hc, ?_⟩
    · by_cases e : i = j
      · subst e; rw [hi] at hj; cases hj; omega
      · by_cases e2 : i < j
        · have := leT_cost (pw_at h.sort hi hj e2); omega
        · omega
    · exact leT_anti (h2 _ (.ext v y hvb.1 (by rw [he]; exact hc)) (by rw [lastN_ext, lastN_ext])) (leT_ext hl he)
theorem Found.len_at {N : Int} {L : List Ed} {s : Int} {P : List Tr} (hG : gok N L = true) (h : Found L s P) : ∀ (i : Nat) {t : Tr}, P[i]? = some t → t.2.length ≤ i + 1 := by
  intro i
  induction i using Nat.strongRecOn with
  | _ i ih =>
    intro t hi
    rcases h.back hG hi with rfl | ⟨j, u, y, hj, hu, _, rfl⟩
    · simp
    · have := ih j hj hu
      have e : (extT L u y).2.length = u.2.length + 1 := by simp [extT]
      omega
theorem nodup_bound : ∀ (n : Nat) (l : List Int), l.Pairwise (fun a b => a ≠ b) → (∀ x ∈ l, 0 ≤ x ∧ x < (n : Int)) → l.length ≤ n
  | 0, l, _, hb => by
    cases l with
    | nil => simp
    | cons x l => have := hb x (List.mem_cons_self); omega
  | n + 1, l, hn, hb => by
    have h1 := nodup_bound n (l.filter fun x => x ≠ (n : Int)) (hn.filter _) (fun x hx => by
      obtain ⟨hx, hne⟩ := List.mem_filter.1 hx
      have := hb x hx
      have hne : x ≠ (n : Int) := by simpa using hne
      omega)
    have h2 : ∀ l : List Int, l.Pairwise (fun a b => a ≠ b) → l.length ≤ (l.filter fun x => x ≠ (n : Int)).length + 1 := by
      intro l
      induction l with
      | nil => simp
      | cons a l ih =>
        intro hp
        rw [List.pairwise_cons] at hp
        rw [List.filter_cons]
        by_cases e : a = (n : Int)
        · have : (l.filter fun x => x ≠ (n : Int)) = l := List.filter_eq_self.2 fun x hx => by have := hp.1 x hx; simp; omega
          rw [if_neg (by simp [e]), this]; simp
        · rw [if_pos (by simp [e])]
          have := ih hp.2
          simp only [List.length_cons]; omega
    have := h2 l hn
    omega
theorem Found.count {N : Int} {L : List Ed} {s : Int} {P : List Tr} (hG : gok N L = true) (hs : 0 ≤ s ∧ s < N) (h : Found L s P) : P.length ≤ N.toNat := by
  have := nodup_bound N.toNat (P.map lastN) (List.pairwise_map.2 h.dist) (fun x hx => by
    obtain ⟨t, ht, rfl⟩ := List.mem_map.1 hx
    have := ((h.best t ht).1.bounds hG hs).2.2.2.1
    omega)
  simpa using this
theorem Found.lens {N : Int} {L : List Ed} {s : Int} {P : List Tr} (hG : gok N L = true) (hs : 0 ≤ s ∧ s < N) (h : Found L s P) {t : Tr} (ht : t ∈ P) : t.2.length ≤ N.toNat := by
  obtain ⟨i, hi⟩ := List.mem_iff_getElem?.1 ht
  have h1 := h.len_at hG i hi
  have h2 := h.count hG hs
  obtain ⟨h3, _⟩ := List.getElem?_eq_some_iff.1 hi
  omega
theorem Found.cost {N : Int} {L : List Ed} {s : Int} {P : List Tr} (hG : gok N L = true) (hs : 0 ≤ s ∧ s < N) (h : Found L s P) {t : Tr} (ht : t ∈ P) : 0 ≤ t.1 ∧ t.1 ≤ 9000 := by
  have h1 := h.lens hG hs ht
  obtain ⟨_, h2, h3, _⟩ := (h.best t ht).1.bounds hG hs
  have h4 := (gok_parts hG).2.1
  refine ⟨h2, ?_⟩
  have : (t.2.length - 1 : Nat) ≤ 9 := by omega
  omega
/-- The cost of the trail found is the distance. -/
theorem Found.dis {N : Int} {L : List Ed} {s : Int} {P : List Tr} (hG : gok N L = true) (hs : 0 ≤ s ∧ s < N) (h : Found L s P) {t : Tr} (ht : t ∈ P) : dsT N L s (lastN t) = t.1 := by
  have hb := h.best t ht
  have h1 := h.lens hG hs ht
  have h2 := h.cost hG hs ht
  have h3 : dsT N L s (lastN t) ≤ t.1 := rounds_trail hG hb.1 N.toNat (by omega) (by unfold Far; omega)
  rcases rounds_sound hG (s := s) N.toNat (lastN t) with e | ⟨u, hu, e1, e2⟩
  · have e' : dsT N L s (lastN t) = Far := e
    rw [e'] at h3; unfold Far at h3; omega
  · have h4 := leT_cost (hb.2 u hu e1)
    have e' : u.1 = dsT N L s (lastN t) := e2
    omega
theorem Found.far {N : Int} {L : List Ed} {s : Int} {P : List Tr} (hG : gok N L = true) (h : Found L s P) {x : Int} (hx : ∀ t ∈ P, lastN t ≠ x) : dsT N L s x = Far := by
  rcases rounds_sound hG (s := s) N.toNat x with e | ⟨u, hu, e1, _⟩
  · exact e
  · obtain ⟨t, ht, e⟩ := h.all u hu
    exact absurd (e.trans e1) (hx t ht)
end Go.Proofs.YtnpdbieadjgghaaGreat
