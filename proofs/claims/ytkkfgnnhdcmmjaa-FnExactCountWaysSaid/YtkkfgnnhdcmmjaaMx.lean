/- Plain mathematics: every trail has a trail without a node twice that is no dearer; the distances of the rounds are the least costs, and the triangle's inequality. It imports no program. -/
import Derived.Test.YtkkfgnnhdcmmjaaMf
namespace Go.Proofs.Ytkkfgnnhdcmmjaa

/-- A trail up to a node that it meets. -/
theorem IsTr.upto {N : Int} {L : List Ed} {s : Int} (hG : gok N L = true) {t : Tr} (h : IsTr L s t) {y : Int} (hy : y ∈ t.2) : ∃ t', IsTr L s t' ∧ lastN t' = y ∧ t'.1 ≤ t.1 ∧ ∃ r, t.2 = t'.2 ++ r := by
  induction h with
  | one =>
    rw [List.mem_singleton] at hy
    subst hy
    exact ⟨(0, [y]), .one, by simp [lastN], Int.le_refl _, [], by simp⟩
  | ext u z hu hc ih =>
    have hpos := (cst_bound hG (lastN u) z).1
    rw [show (extT L u z).2 = u.2 ++ [z] from rfl, List.mem_append, List.mem_singleton] at hy
    rcases hy with hy | rfl
    · obtain ⟨t', h1, h2, h3, r, h4⟩ := ih hy
      exact ⟨t', h1, h2, by show t'.1 ≤ u.1 + cst L (lastN u) z; omega, r ++ [z], by show u.2 ++ [z] = _; rw [h4, List.append_assoc]⟩
    · exact ⟨extT L u y, .ext u y hu hc, lastN_ext L u y, Int.le_refl _, [], by simp⟩
/-- No dearer, and no node twice. -/
theorem IsTr.simple {N : Int} {L : List Ed} {s : Int} (hG : gok N L = true) {u : Tr} (h : IsTr L s u) : ∃ t, IsTr L s t ∧ lastN t = lastN u ∧ t.1 ≤ u.1 ∧ t.2.Pairwise (fun a b => a ≠ b) := by
  induction h with
  | one => exact ⟨(0, [s]), .one, rfl, Int.le_refl _, List.pairwise_singleton _ _⟩
  | ext u y hu hc ih =>
    obtain ⟨t, h1, h2, h3, h4⟩ := ih
    have hpos := (cst_bound hG (lastN u) y).1
    by_cases hy : y ∈ t.2
    · obtain ⟨t', g1, g2, g3, r, g4⟩ := h1.upto hG hy
      refine ⟨t', g1, by rw [g2, lastN_ext], by show t'.1 ≤ u.1 + cst L (lastN u) y; omega, ?_⟩
      rw [g4, List.pairwise_append] at h4
      exact h4.1
    · refine ⟨extT L t y, .ext t y h1 (by rw [h2]; exact hc), by rw [lastN_ext, lastN_ext], by show t.1 + cst L (lastN t) y ≤ u.1 + cst L (lastN u) y; rw [h2]; omega, ?_⟩
      show (t.2 ++ [y]).Pairwise _
      rw [List.pairwise_append]
      exact ⟨h4, List.pairwise_singleton _ _, fun a ha b hb => by rw [List.mem_singleton] at hb; subst hb; exact fun e => hy (e ▸ ha)⟩
/-- No trail is cheaper than the distance. -/
theorem dsT_le {N : Int} {L : List Ed} {s : Int} (hG : gok N L = true) (hs : 0 ≤ s ∧ s < N) {u : Tr} (h : IsTr L s u) : dsT N L s (lastN u) ≤ u.1 := by
  obtain ⟨t, h1, h2, h3, h4⟩ := h.simple hG
  obtain ⟨b1, b2, b3, b4, b5⟩ := h1.bounds hG hs
  have hN := gok_parts hG
  have hl : t.2.length ≤ N.toNat := nodup_bound N.toNat t.2 h4 (fun x hx => by have := b5 x hx; omega)
  have hF : t.1 < Far := by unfold Far; omega
  have := rounds_trail hG h1 N.toNat (by omega) hF
  rw [h2] at this
  exact Int.le_trans this h3
theorem dsT_tr {N : Int} {L : List Ed} {s : Int} (hG : gok N L = true) (x : Int) : dsT N L s x = Far ∨ ∃ t, IsTr L s t ∧ lastN t = x ∧ t.1 = dsT N L s x := rounds_sound hG N.toNat x
/-- One trail behind another. -/
theorem IsTr.join {L : List Ed} {s : Int} {t1 : Tr} (h1 : IsTr L s t1) {k : Int} (hk : lastN t1 = k) {t2 : Tr} (h2 : IsTr L k t2) : ∃ u, IsTr L s u ∧ lastN u = lastN t2 ∧ u.1 = t1.1 + t2.1 := by
  induction h2 with
  | one => exact ⟨t1, h1, by rw [hk]; simp [lastN], by simp⟩
  | ext u y hu hc ih =>
    obtain ⟨v, g1, g2, g3⟩ := ih
    exact ⟨extT L v y, .ext v y g1 (by rw [g2]; exact hc), by rw [lastN_ext, lastN_ext], by show v.1 + cst L (lastN v) y = t1.1 + (u.1 + cst L (lastN u) y); rw [g2, g3]; omega⟩
theorem dsT_tri {N : Int} {L : List Ed} {i j k : Int} (hG : gok N L = true) (hi : 0 ≤ i ∧ i < N) (h1 : dsT N L i k < Far) (h2 : dsT N L k j < Far) : dsT N L i j ≤ dsT N L i k + dsT N L k j := by
  rcases dsT_tr hG (s := i) k with e | ⟨t1, a1, a2, a3⟩
  · omega
  rcases dsT_tr hG (s := k) j with e | ⟨t2, b1, b2, b3⟩
  · omega
  obtain ⟨u, c1, c2, c3⟩ := a1.join a2 b1
  have := dsT_le hG hi c1
  rw [c2, b2, c3, a3, b3] at this
  exact this
theorem dsT_self {N : Int} {L : List Ed} {i : Int} (hG : gok N L = true) (hi : 0 ≤ i ∧ i < N) : dsT N L i i = 0 := by
  have h1 := dsT_le hG hi (IsTr.one (L := L) (s := i))
  have h2 : lastN ((0, [i]) : Tr) = i := by simp [lastN]
  rw [h2] at h1
  rcases dsT_tr hG (s := i) i with e | ⟨t, a1, _, a3⟩
  · rw [e] at h1; unfold Far at h1; simp at h1
  · have := (a1.bounds hG hi).2.1
    have h1' : dsT N L i i ≤ 0 := h1
    omega
theorem dsT_edge {N : Int} {L : List Ed} {i j : Int} (hG : gok N L = true) (hi : 0 ≤ i ∧ i < N) (h : cst L i j ≠ Far) : dsT N L i j ≤ cst L i j := by
  have h2 : lastN ((0, [i]) : Tr) = i := by simp [lastN]
  have := dsT_le hG hi (IsTr.ext (L := L) (0, [i]) j .one (by rw [h2]; exact h))
  rw [lastN_ext] at this
  have e : (extT L (0, [i]) j).1 = 0 + cst L (lastN ((0, [i]) : Tr)) j := rfl
  rw [e, h2] at this
  omega
end Go.Proofs.Ytkkfgnnhdcmmjaa
