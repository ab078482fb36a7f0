/- Plain mathematics of rows (From, N, Min, Max, Sum). It imports no program. -/
namespace Go.Proofs.Ytnaifkmganngfaa

abbrev Rw := Int × Int × Int × Int × Int
def flat (L : List Rw) : List Int := L.flatMap fun r => [r.1, r.2.1, r.2.2.1, r.2.2.2.1, r.2.2.2.2]
theorem flat_cons (r : Rw) (L : List Rw) : flat (r :: L) = r.1 :: r.2.1 :: r.2.2.1 :: r.2.2.2.1 :: r.2.2.2.2 :: flat L := rfl
theorem flat_len : ∀ L : List Rw, (flat L).length = L.length * 5
  | [] => rfl
  | r :: L => by rw [flat_cons]; simp only [List.length_cons, flat_len L]; omega
theorem flat_app (L M : List Rw) : flat (L ++ M) = flat L ++ flat M := by simp [flat]
theorem flat_at : ∀ (L : List Rw) (i : Nat) (r : Rw), L[i]? = some r → (flat L)[i * 5]? = some r.1 ∧ (flat L)[i * 5 + 1]? = some r.2.1 ∧ (flat L)[i * 5 + 2]? = some r.2.2.1 ∧ (flat L)[i * 5 + 3]? = some r.2.2.2.1 ∧ (flat L)[i * 5 + 4]? = some r.2.2.2.2
  | [], i, r, h => by simp at h
  | q :: L, 0, r, h => by
    simp only [List.getElem?_cons_zero, Option.some.injEq] at h
    subst h
    exact ⟨rfl, rfl, rfl, rfl, rfl⟩
  | q :: L, i + 1, r, h => by
    have := flat_at L i r (by simpa using h)
    rw [flat_cons, show (i + 1) * 5 = i * 5 + 1 + 1 + 1 + 1 + 1 by omega]
    simpa using this
/-- The rows that a function of integers spells. -/
def rws (Z : Nat → Int) (n : Nat) : List Rw := (List.range n).map fun i => (Z (i * 5), Z (i * 5 + 1), Z (i * 5 + 2), Z (i * 5 + 3), Z (i * 5 + 4))
theorem rws_len (Z : Nat → Int) (n : Nat) : (rws Z n).length = n := by simp [rws]
theorem flat_rws (Z : Nat → Int) : ∀ n, flat (rws Z n) = (List.range (n * 5)).map Z
  | 0 => rfl
  | n + 1 => by
    have h : rws Z (n + 1) = rws Z n ++ [(Z (n * 5), Z (n * 5 + 1), Z (n * 5 + 2), Z (n * 5 + 3), Z (n * 5 + 4))] := by simp [rws, List.range_succ]
    rw [h, flat_app, flat_rws Z n, show (n + 1) * 5 = n * 5 + 1 + 1 + 1 + 1 + 1 by omega]
    simp only [List.range_succ, List.map_append, List.map_cons, List.map_nil, List.append_assoc]
    rfl

end Go.Proofs.Ytnaifkmganngfaa
