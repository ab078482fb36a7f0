/- Plain mathematics: the tree that both sides answer. It imports no program. -/
import Derived.Test.YtjenjdhoblcohaaMp
namespace Go.Proofs.Ytjenjdhoblcohaa

/-- The node ahead of the last one. -/
def prd (ns : List Int) : Int := if 1 < ns.length then ns.getD (ns.length - 2) 0 else -1
theorem prd_yes {ns : List Int} (h : 1 < ns.length) : ns[ns.length - 2]? = some (prd ns) := by
  unfold prd
  rw [if_pos h, List.getD_eq_getElem?_getD, List.getElem?_eq_getElem (by omega)]
  rfl
theorem prd_no {ns : List Int} (h : ¬ 1 < ns.length) : prd ns = -1 := if_neg h
theorem WayP.near {N : Int} {L : List Ed} {s o : Int} {l : List Int} (hG : gok N L = true) (ho : 0 ≤ o ∧ o < N) (h : WayP N L s o l) : dsT N L s o ≠ Far := by
  obtain ⟨S, _, hg⟩ := h
  exact (hg.sh.tr hG ho).2.2
/-- The tree that both sides answer. -/
def TreeP (N : Int) (L : List Ed) (s : Int) (f : Int → Int) : Prop := ∀ x, 0 ≤ x ∧ x < N → (dsT N L s x = Far → f x = -1) ∧ ∀ l, WayP N L s x l → f x = prd (s :: l)
theorem TreeP.ex {N : Int} {L : List Ed} {s : Int} (hG : gok N L = true) (hs : 0 ≤ s ∧ s < N) : ∃ f, TreeP N L s f := by
  have h : ∀ x, ∃ y, 0 ≤ x ∧ x < N → (dsT N L s x = Far → y = -1) ∧ ∀ l, WayP N L s x l → y = prd (s :: l) := fun x => by
    by_cases hx : 0 ≤ x ∧ x < N
    · by_cases hd : dsT N L s x = Far
      · exact ⟨-1, fun _ => ⟨fun _ => rfl, fun l hl => absurd hd (hl.near hG hx)⟩⟩
      · obtain ⟨l, hl⟩ := WayP.ex hG hs hx hd
        exact ⟨prd (s :: l), fun _ => ⟨fun h => absurd h hd, fun l' hl' => by rw [hl.uniq hG hl']⟩⟩
    · exact ⟨0, fun h => absurd h hx⟩
  exact ⟨fun x => Classical.choose (h x), fun x => Classical.choose_spec (h x)⟩
/-- The tree behind the trails P. -/
def tabT (P : List Tr) : Int → Int := P.foldl (fun d t => if 1 < t.2.length then upd d (lastN t) (prd t.2) else d) (fun _ => -1)
theorem tabT_snoc (P : List Tr) (t : Tr) : tabT (P ++ [t]) = if 1 < t.2.length then upd (tabT P) (lastN t) (prd t.2) else tabT P := by unfold tabT; rw [List.foldl_append]; rfl
theorem tabT_cases (x : Int) : ∀ (n : Nat) (P : List Tr), P.length = n → P.Pairwise (fun t u => lastN t ≠ lastN u) → (∃ t ∈ P, lastN t = x ∧ tabT P x = prd t.2) ∨ ((∀ t ∈ P, lastN t ≠ x) ∧ tabT P x = -1)
  | 0, P, hP, _ => by
    obtain rfl : P = [] := List.eq_nil_of_length_eq_zero hP
    exact .inr ⟨fun t ht => absurd ht (List.not_mem_nil), rfl⟩
  | n + 1, P, hP, hd => by
    obtain ⟨Q, t, rfl⟩ : ∃ Q t, P = Q ++ [t] := ⟨P.take n, P[n]'(by omega), by
      have h1 := List.take_add_one (l := P) (i := n)
      rw [List.take_of_length_le (by omega), List.getElem?_eq_getElem (by omega)] at h1
      exact h1⟩
    rw [List.pairwise_append] at hd
    have ih := tabT_cases x n Q (by simpa using hP) hd.1
    rw [tabT_snoc]
    by_cases e : x = lastN t
    · left
      refine ⟨t, by simp, e.symm, ?_⟩
      by_cases h1 : 1 < t.2.length
      · rw [if_pos h1, e, upd_at]
      · rw [if_neg h1, prd_no h1]
        rcases ih with ⟨u, hu, h2, _⟩ | ⟨_, h2⟩
        · exact absurd (h2.trans e) (hd.2.2 u hu t (by simp))
        · exact h2
    · have e2 : (if 1 < t.2.length then upd (tabT Q) (lastN t) (prd t.2) else tabT Q) x = tabT Q x := by
        split
        · exact upd_ne e
        · rfl
      rw [e2]
      rcases ih with ⟨u, hu, h2, h3⟩ | ⟨h2, h3⟩
      · exact .inl ⟨u, by simp [hu], h2, h3⟩
      · refine .inr ⟨fun u hu => ?_, h3⟩
        rcases List.mem_append.1 hu with hu | hu
        · exact h2 u hu
        · rw [List.mem_singleton] at hu; subst hu; exact fun h => e h.symm
theorem tabT_tree {N : Int} {L : List Ed} {s : Int} {P : List Tr} {f : Int → Int} (hG : gok N L = true) (hs : 0 ≤ s ∧ s < N) (h : Found L s P) (hf : TreeP N L s f) {x : Int} (hx : 0 ≤ x ∧ x < N) : tabT P x = f x := by
  rcases tabT_cases x _ P rfl h.dist with ⟨t, ht, h1, h2⟩ | ⟨h1, h2⟩
  · have hd : dsT N L s x ≠ Far := by
      have a := h.dis hG hs ht
      have b := h.cost hG hs ht
      rw [h1] at a
      unfold Far; omega
    obtain ⟨l, hl⟩ := WayP.ex hG hs hx hd
    rw [h2, (hf x hx).2 l hl, hl.found hG hs hx h ht h1]
  · rw [h2, (hf x hx).1]
    exact h.far hG h1
end Go.Proofs.Ytjenjdhoblcohaa
