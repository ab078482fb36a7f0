/- A store into a sketch. -/
import Derived.Test.YtophppnllkadoaaK4
namespace Go.Proofs.Ytophppnllkadoaa
open Go.RowKit


theorem Row.set1 {w : World} {lo hi n c g : Nat} {l : List Int} (h : Row 1 w lo hi (.slice (some ⟨g, 0, none⟩) n c) n l) {j : Nat} {z0 : Int} (hj : l[j]? = some z0) (z : Int) : Row 1 (w.setCell ⟨g, j, none⟩ (.int .i64 z)) lo hi (.slice (some ⟨g, 0, none⟩) n c) n (l.set j z) := by
  have hjl := lt_of_at hj
  obtain ⟨h0, h⟩ := h
  refine ⟨by simpa using h0, ?_⟩
  rcases h with ⟨e, _⟩ | ⟨b, cap, e, h1, h2, h3, h4, h5⟩
  · omega
  · simp only [Value.slice.injEq, Option.some.injEq] at e
    obtain ⟨e1, _, rfl⟩ := e
    obtain rfl : g = b := by simpa using e1
    refine .inr ⟨g, c, rfl, h1, h2, h3, fun q u hq => ?_, fun o => by rw [World.frozen?_setCell]; exact h5 o⟩
    by_cases e : j = q
    · subst e
      rw [List.getElem?_set_self hjl] at hq
      obtain rfl := Option.some.inj hq
      exact World.cell?_setCell_same' _ _ _ (by rw [h4 _ _ hj]; rfl)
    · rw [List.getElem?_set_ne e] at hq
      rw [World.cell?_setCell_other _ _ _ _ (by simp <;> omega)]
      exact h4 _ _ hq
theorem KRow.store {w : World} {lo hi n c : Nat} {a : Option Addr} {D : List (List Int)} (h : KRow w lo hi (.slice a n c) n D) {i j : Nat} {l : List Int} {z0 : Int} (hl : D[i]? = some l) (hj : l[j]? = some z0) :
    ∃ G y g, a = some ⟨G, 0, none⟩ ∧ lo ≤ G ∧ G < hi ∧ lo ≤ g ∧ g < hi ∧ w.cell? ⟨G, i, none⟩ = some (.slice (some ⟨g, 0, none⟩) l.length y) ∧ w.cell? ⟨g, j, none⟩ = some (.int .i64 z0) ∧ w.frozen? ⟨g, j, none⟩ = false ∧
      ∀ z : Int, KRow (w.setCell ⟨g, j, none⟩ (.int .i64 z)) lo hi (.slice a n c) n (D.set i (l.set j z)) := by
  obtain ⟨⟨a', c', us, bs, e, X⟩, hn⟩ := h
  simp only [Value.slice.injEq] at e
  obtain ⟨rfl, hnn, rfl⟩ := e
  have hil := lt_of_at hl
  have hjl := lt_of_at hj
  obtain ⟨G, g0, g1, g2, g3, g4, g5⟩ := X.outer (by omega)
  obtain ⟨r1, r2, r3⟩ := X.inner i l hl
  have hc := g4 i l hl
  have r1' := r1
  obtain ⟨_, ⟨e, _⟩ | ⟨g, y, e, h1, h2, h3, h4, h5⟩⟩ := r1'
  · omega
  rw [e] at hc r1
  refine ⟨G, y, g, g0, g1, g2, by omega, by omega, hc, h4 _ _ hj, h5 _, fun z => ⟨⟨a, c, us, bs, ?_, ?_, fun hp => ⟨G, g0, g1, g2, fun o => by rw [World.frozen?_setCell]; exact g3 o, fun q l' hq => ?_, fun q hq => g5 q (by simpa using hq)⟩, fun q l' hq => ?_, fun q q' hqq hq => X.apart q q' hqq (by simpa using hq)⟩, by simpa using hn⟩⟩
  · rw [List.length_set, hn]
  · rw [List.length_set]; exact X.len
  · have hne : G ≠ g := by have := g5 i hil; omega
    rw [World.cell?_setCell_other _ _ _ _ (by simp <;> omega)]
    by_cases e2 : i = q
    · subst e2
      exact g4 i l hl
    · rw [List.getElem?_set_ne e2] at hq
      exact g4 q l' hq
  · by_cases e2 : i = q
    · subst e2
      rw [List.getElem?_set_self hil] at hq
      obtain rfl := Option.some.inj hq
      refine ⟨?_, r2, r3⟩
      rw [e, List.length_set]
      exact r1.set1 hj z
    · rw [List.getElem?_set_ne e2] at hq
      obtain ⟨s1, s2, s3⟩ := X.inner q l' hq
      have hql := lt_of_at hq
      refine ⟨s1.setCell (p := ⟨g, j, none⟩) ?_ _, s2, s3⟩
      show g < (bs q).1 ∨ (bs q).2 ≤ g
      rcases Nat.lt_or_ge i q with h6 | h6
      · left; have := X.apart i q h6 hql; omega
      · right; have := X.apart q i (by omega) hil; omega

end Go.Proofs.Ytophppnllkadoaa
