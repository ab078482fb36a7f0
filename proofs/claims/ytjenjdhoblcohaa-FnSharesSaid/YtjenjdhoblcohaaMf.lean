/- Plain mathematics: what the search finds are the distances of the rounds; the trails that it finds go on from one another. It imports no program. -/
import Derived.Test.YtjenjdhoblcohaaMd
namespace Go.Proofs.Ytjenjdhoblcohaa

/-- One edge looked at: d is a table of distances. -/
def relax (d : Int → Int) (e : Ed) : Int → Int := if d e.1 < Far ∧ d e.1 + e.2.2 < d e.2.1 then fun x => if x = e.2.1 then d e.1 + e.2.2 else d x else d
def relaxAll (L : List Ed) (d : Int → Int) : Int → Int := L.foldl relax d
def start (s : Int) : Int → Int := fun x => if x = s then 0 else Far
def rounds (L : List Ed) (s : Int) : Nat → Int → Int
  | 0 => start s
  | k + 1 => relaxAll L (rounds L s k)
theorem relax_le (d : Int → Int) (e : Ed) (x : Int) : relax d e x ≤ d x := by
  unfold relax
  split
  · rename_i h
    show (if x = e.2.1 then d e.1 + e.2.2 else d x) ≤ d x
    split
    · rename_i hx; subst hx; omega
    · exact Int.le_refl _
  · exact Int.le_refl _
theorem relax_at (d : Int → Int) (e : Ed) (h : d e.1 < Far) : relax d e e.2.1 ≤ d e.1 + e.2.2 := by
  unfold relax
  by_cases hlt : d e.1 + e.2.2 < d e.2.1
  · rw [if_pos ⟨h, hlt⟩]; simp
  · rw [if_neg (fun hh => hlt hh.2)]; omega
theorem foldl_le : ∀ (L : List Ed) (d : Int → Int) (x : Int), L.foldl relax d x ≤ d x
  | [], _, _ => Int.le_refl _
  | e :: L, d, x => Int.le_trans (foldl_le L (relax d e) x) (relax_le d e x)
/-- After a round every edge out of a node that was reached has been counted. -/
theorem foldl_edge : ∀ (L : List Ed) (d : Int → Int) {e : Ed}, e ∈ L → d e.1 < Far → L.foldl relax d e.2.1 ≤ d e.1 + e.2.2
  | [], _, _, h, _ => by cases h
  | f :: L, d, e, h, hd => by
    rw [List.foldl_cons]
    rcases List.mem_cons.1 h with rfl | h
    · exact Int.le_trans (foldl_le L _ _) (relax_at d e hd)
    · have h1 := relax_le d f e.1
      have := foldl_edge L (relax d f) h (by omega)
      omega
/-- What stands in the table is what some trail costs, or Far. -/
def Sound (L : List Ed) (s : Int) (d : Int → Int) : Prop := ∀ x, d x = Far ∨ ∃ t, IsTr L s t ∧ lastN t = x ∧ t.1 = d x
theorem start_sound (L : List Ed) (s : Int) : Sound L s (start s) := fun x => by
  unfold start
  by_cases h : x = s
  · subst h; right; exact ⟨(0, [x]), .one, by simp [lastN], by simp⟩
  · left; rw [if_neg h]
theorem relax_sound {N : Int} {L : List Ed} {s : Int} (hG : gok N L = true) {d : Int → Int} (h : Sound L s d) {e : Ed} (he : e ∈ L) : Sound L s (relax d e) := fun x => by
  unfold relax
  split
  · rename_i hh
    by_cases hx : x = e.2.1
    · right
      rcases h e.1 with h1 | ⟨t, h1, h2, h3⟩
      · omega
      · have hc := cst_mem hG he
        have hne : cst L (lastN t) e.2.1 ≠ Far := by rw [h2, hc]; have := gok_mem hG he; unfold Far; omega
        exact ⟨extT L t e.2.1, .ext t _ h1 hne, by rw [lastN_ext, hx], by show t.1 + cst L (lastN t) e.2.1 = (if x = e.2.1 then d e.1 + e.2.2 else d x); rw [if_pos hx, h2, hc, h3]⟩
    · have e1 : (fun x => if x = e.2.1 then d e.1 + e.2.2 else d x) x = d x := if_neg hx
      rw [e1]; exact h x
  · exact h x
theorem foldl_sound {N : Int} {L : List Ed} {s : Int} (hG : gok N L = true) : ∀ (M : List Ed) (d : Int → Int), (∀ e ∈ M, e ∈ L) → Sound L s d → Sound L s (M.foldl relax d)
  | [], _, _, h => h
  | e :: M, d, hM, h => foldl_sound hG M (relax d e) (fun f hf => hM f (List.mem_cons_of_mem _ hf)) (relax_sound hG h (hM e (List.mem_cons_self)))
theorem rounds_sound {N : Int} {L : List Ed} {s : Int} (hG : gok N L = true) : ∀ k, Sound L s (rounds L s k)
  | 0 => start_sound L s
  | k + 1 => foldl_sound hG L _ (fun _ h => h) (rounds_sound hG k)
theorem rounds_le (L : List Ed) (s : Int) (x : Int) : ∀ k, rounds L s (k + 1) x ≤ rounds L s k x := fun _ => foldl_le L _ x
theorem rounds_mono (L : List Ed) (s : Int) (x : Int) (j : Nat) : ∀ k, j ≤ k → rounds L s k x ≤ rounds L s j x
  | 0, h => by obtain rfl : j = 0 := by omega
               exact Int.le_refl _
  | k + 1, h => by
    by_cases e : j = k + 1
    · subst e; exact Int.le_refl _
    · exact Int.le_trans (rounds_le L s x k) (rounds_mono L s x j k (by omega))
/-- After k rounds no trail of at most k + 1 nodes, none dearer than Far, is cheaper. -/
theorem rounds_trail {N : Int} {L : List Ed} {s : Int} (hG : gok N L = true) {t : Tr} (ht : IsTr L s t) : ∀ k, t.2.length ≤ k + 1 → t.1 < Far → rounds L s k (lastN t) ≤ t.1 := by
  induction ht with
  | one => intro k _ _; exact Int.le_trans (rounds_mono L s _ 0 k (Nat.zero_le _)) (by simp [rounds, start, lastN])
  | ext t y h hc ih =>
    intro k hk hF
    have hk' : t.2.length + 1 ≤ k + 1 := by have : (extT L t y).2.length = t.2.length + 1 := by simp [extT]
                                            omega
    have hpos : 0 < t.2.length := by
      cases h with
      | one => simp
      | ext => simp [extT]
    obtain ⟨j, rfl⟩ : ∃ j, k = j + 1 := ⟨k - 1, by omega⟩
    have hb := (cst_bound hG (lastN t) y).1
    have hF' : t.1 + cst L (lastN t) y < Far := hF
    have h1 := ih j (by omega) (by omega)
    rcases cst_cases hG (lastN t) y with ⟨h2, _⟩ | ⟨e, he, h3, h4, h5⟩
    · exact absurd h2 hc
    · have := foldl_edge L (rounds L s j) he (by rw [h3]; omega)
      rw [lastN_ext]
      show relaxAll L (rounds L s j) y ≤ t.1 + cst L (lastN t) y
      unfold relaxAll
      rw [h3, h4] at this
      rw [h5]
      omega

/-- The model's table of distances. -/
def dsT (N : Int) (L : List Ed) (s : Int) : Int → Int := rounds L s N.toNat
theorem leT_anti {a b : Tr} (h1 : leT a b) (h2 : leT b a) : a = b := ltB_total _ _ h2 h1
theorem pw_at {α : Type} {R : α → α → Prop} {P : List α} (h : P.Pairwise R) {i j : Nat} {t u : α} (hi : P[i]? = some t) (hj : P[j]? = some u) (hij : i < j) : R t u := by
  obtain ⟨h1, rfl⟩ := List.getElem?_eq_some_iff.1 hi
  obtain ⟨h2, rfl⟩ := List.getElem?_eq_some_iff.1 hj
  exact List.pairwise_iff_getElem.1 h i j h1 h2 hij
/-- A trail that is found is the first one, or goes on from one found before it. -/
theorem Found.back {N : Int} {L : List Ed} {s : Int} {P : List Tr} (hG : gok N L = true) (h : Found L s P) {i : Nat} {t : Tr} (hi : P[i]? = some t) :
    t = (0, [s]) ∨ ∃ j u y, j < i ∧ P[j]? = some u ∧ cst L (lastN u) y ≠ Far ∧ t = extT L u y := by
  have hb := h.best t (List.mem_of_getElem? hi)
  obtain ⟨h1, h2⟩ := hb
  cases h1 with
  | one => exact .inl rfl
  | ext u y hu hc =>
    right
    obtain ⟨v, hv, he⟩ := h.all u hu
    obtain ⟨j, hj⟩ := List.mem_iff_getElem?.1 hv
    have hvb := h.best v hv
    have hl := hvb.2 u hu he.symm
    have hcb := (cst_bound hG (lastN u) y).1
    have hc1 := leT_cost hl
    have hlt : v.1 < (extT L u y).1 := by show v.1 < u.1 + cst L (lastN u) y; omega
    refine ⟨j, v, y, ?_, hj, by rw [he]; exact hc, ?_⟩
    · by_cases e : i = j
      · subst e; rw [hi] at hj; cases hj; omega
      · by_cases e2 : i < j
        · have := leT_cost (pw_at h.sort hi hj e2); omega
        · omega
    · exact leT_anti (h2 _ (.ext v y hvb.1 (by rw [he]; exact hc)) (by rw [lastN_ext, lastN_ext])) (leT_ext hl he)
theorem Found.len_at {N : Int} {L : List Ed} {s : Int} {P : List Tr} (hG : gok N L = true) (h : Found L s P) : ∀ (i : Nat) {t : Tr}, P[i]? = some t → t.2.length ≤ i + 1 := by
  intro i
  induction i using Nat.strongRecOn with
  | _ i ih =>
    intro t hi
    rcases h.back hG hi with rfl | ⟨j, u, y, hj, hu, _, rfl⟩
    · simp
    · have := ih j hj hu
      have e : (extT L u y).2.length = u.2.length + 1 := by simp [extT]
      omega
theorem nodup_bound : ∀ (n : Nat) (l : List Int), l.Pairwise (fun a b => a ≠ b) → (∀ x ∈ l, 0 ≤ x ∧ x < (n : Int)) → l.length ≤ n
  | 0, l, _, hb => by
    cases l with
    | nil => simp
    | cons x l => have := hb x (List.mem_cons_self); omega
  | n + 1, l, hn, hb => by
    have h1 := nodup_bound n (l.filter fun x => x ≠ (n : Int)) (hn.filter _) (fun x hx => by
      obtain ⟨hx, hne⟩ := List.mem_filter.1 hx
      have := hb x hx
      have hne : x ≠ (n : Int) := by simpa using hne
      omega)
    have h2 : ∀ l : List Int, l.Pairwise (fun a b => a ≠ b) → l.length ≤ (l.filter fun x => x ≠ (n : Int)).length + 1 := by
      intro l
      induction l with
      | nil => simp
      | cons a l ih =>
        intro hp
        rw [List.pairwise_cons] at hp
        rw [List.filter_cons]
        by_cases e : a = (n : Int)
        · have : (l.filter fun x => x ≠ (n : Int)) = l := List.filter_eq_self.2 fun x hx => by have := hp.1 x hx; simp; omega
          rw [if_neg (by simp [e]), this]; simp
        · rw [if_pos (by simp [e])]
          have := ih hp.2
          simp only [List.length_cons]; omega
    have := h2 l hn
    omega
theorem Found.count {N : Int} {L : List Ed} {s : Int} {P : List Tr} (hG : gok N L = true) (hs : 0 ≤ s ∧ s < N) (h : Found L s P) : P.length ≤ N.toNat := by
  have := nodup_bound N.toNat (P.map lastN) (List.pairwise_map.2 h.dist) (fun x hx => by
    obtain ⟨t, ht, rfl⟩ := List.mem_map.1 hx
    have := ((h.best t ht).1.bounds hG hs).2.2.2.1
    omega)
  simpa using this
theorem Found.lens {N : Int} {L : List Ed} {s : Int} {P : List Tr} (hG : gok N L = true) (hs : 0 ≤ s ∧ s < N) (h : Found L s P) {t : Tr} (ht : t ∈ P) : t.2.length ≤ N.toNat := by
  obtain ⟨i, hi⟩ := List.mem_iff_getElem?.1 ht
  have h1 := h.len_at hG i hi
  have h2 := h.count hG hs
  obtain ⟨h3, _⟩ := List.getElem?_eq_some_iff.1 hi
  omega
theorem Found.cost {N : Int} {L : List Ed} {s : Int} {P : List Tr} (hG : gok N L = true) (hs : 0 ≤ s ∧ s < N) (h : Found L s P) {t : Tr} (ht : t ∈ P) : 0 ≤ t.1 ∧ t.1 ≤ 9000 := by
  have h1 := h.lens hG hs ht
  obtain ⟨_, h2, h3, _⟩ := (h.best t ht).1.bounds hG hs
  have h4 := (gok_parts hG).2.1
  refine ⟨h2, ?_⟩
  have : (t.2.length - 1 : Nat) ≤ 9 := by omega
  omega
/-- The cost of the trail found is the distance. -/
theorem Found.dis {N : Int} {L : List Ed} {s : Int} {P : List Tr} (hG : gok N L = true) (hs : 0 ≤ s ∧ s < N) (h : Found L s P) {t : Tr} (ht : t ∈ P) : dsT N L s (lastN t) = t.1 := by
  have hb := h.best t ht
  have h1 := h.lens hG hs ht
  have h2 := h.cost hG hs ht
  have h3 : dsT N L s (lastN t) ≤ t.1 := rounds_trail hG hb.1 N.toNat (by omega) (by unfold Far; omega)
  rcases rounds_sound hG (s := s) N.toNat (lastN t) with e | ⟨u, hu, e1, e2⟩
  · have e' : dsT N L s (lastN t) = Far := e
    rw [e'] at h3; unfold Far at h3; omega
  · have h4 := leT_cost (hb.2 u hu e1)
    have e' : u.1 = dsT N L s (lastN t) := e2
    omega
theorem Found.far {N : Int} {L : List Ed} {s : Int} {P : List Tr} (hG : gok N L = true) (h : Found L s P) {x : Int} (hx : ∀ t ∈ P, lastN t ≠ x) : dsT N L s x = Far := by
  rcases rounds_sound hG (s := s) N.toNat x with e | ⟨u, hu, e1, _⟩
  · exact e
  · obtain ⟨t, ht, e⟩ := h.all u hu
    exact absurd (e.trans e1) (hx t ht)

end Go.Proofs.Ytjenjdhoblcohaa
