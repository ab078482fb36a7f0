/- Plain mathematics of splitting a text at each byte of one kind. It imports no program. -/
import Derived.Test.YtegffibamkaeiaaDoorMp
namespace Go.Proofs.YtegffibamkaeiaaDoor

/-- The pieces, each with the byte behind it. -/
def joinE (b : UInt8) (L : List (List UInt8)) : List UInt8 := L.flatMap fun p => p ++ [b]
/-- L is what l falls into at the byte b. -/
def Split (b : UInt8) (l : List UInt8) (L : List (List UInt8)) : Prop := ∃ D p, L = D ++ [p] ∧ joinE b D ++ p = l ∧ (∀ q ∈ L, b ∉ q)
/-- The state ahead of byte i: the pieces D so far, the next one begins at a. -/
def Mid (b : UInt8) (l : List UInt8) (D : List (List UInt8)) (a i : Nat) : Prop :=
  a ≤ i ∧ i ≤ l.length ∧ joinE b D = l.take a ∧ (∀ q ∈ D, b ∉ q) ∧ b ∉ (l.drop a).take (i - a)

theorem Mid.start (b : UInt8) (l : List UInt8) : Mid b l [] 0 0 := ⟨Nat.le_refl _, Nat.zero_le _, by simp [joinE], by simp, by simp⟩
theorem piece_snoc (l : List UInt8) (a i : Nat) (ha : a ≤ i) (c : UInt8) (hc : l[i]? = some c) : (l.drop a).take (i + 1 - a) = (l.drop a).take (i - a) ++ [c] := by
  have e : i + 1 - a = (i - a) + 1 := by omega
  have h : (l.drop a)[i - a]? = some c := by rw [List.getElem?_drop, show a + (i - a) = i by omega]; exact hc
  rw [e, List.take_add_one, h]; rfl
theorem Mid.skip {b : UInt8} {l : List UInt8} {D : List (List UInt8)} {a i : Nat} (h : Mid b l D a i) {c : UInt8} (hc : l[i]? = some c) (hb : c ≠ b) : Mid b l D a (i + 1) := by
  obtain ⟨h1, h2, h3, h4, h5⟩ := h
  have hlt : i < l.length := (List.getElem?_eq_some_iff.1 hc).1
  refine ⟨by omega, by omega, h3, h4, ?_⟩
  rw [piece_snoc l a i h1 c hc]
  intro hm
  rcases List.mem_append.1 hm with hm | hm
  · exact h5 hm
  · exact hb (List.mem_singleton.1 hm).symm
theorem take_piece (l : List UInt8) (a i : Nat) (ha : a ≤ i) : l.take a ++ (l.drop a).take (i - a) = l.take i := by
  have e : i = a + (i - a) := by omega
  conv => rhs; rw [e, List.take_add]
theorem Mid.cut {b : UInt8} {l : List UInt8} {D : List (List UInt8)} {a i : Nat} (h : Mid b l D a i) (hc : l[i]? = some b) : Mid b l (D ++ [(l.drop a).take (i - a)]) (i + 1) (i + 1) := by
  obtain ⟨h1, h2, h3, h4, h5⟩ := h
  have hlt : i < l.length := (List.getElem?_eq_some_iff.1 hc).1
  refine ⟨Nat.le_refl _, hlt, ?_, ?_, by simp⟩
  · have e : joinE b (D ++ [(l.drop a).take (i - a)]) = joinE b D ++ ((l.drop a).take (i - a) ++ [b]) := by simp [joinE]
    rw [e, h3, ← List.append_assoc, take_piece l a i h1, List.take_add_one, hc]; rfl
  · intro q hq
    rcases List.mem_append.1 hq with hq | hq
    · exact h4 q hq
    · simp only [List.mem_singleton] at hq
      subst hq
      exact h5
theorem Mid.done {b : UInt8} {l : List UInt8} {D : List (List UInt8)} {a : Nat} (h : Mid b l D a l.length) : Split b l (D ++ [(l.drop a).take (l.length - a)]) := by
  obtain ⟨h1, h2, h3, h4, h5⟩ := h
  refine ⟨D, _, rfl, ?_, ?_⟩
  · rw [h3, take_piece l a l.length h1, List.take_length]
  · intro q hq
    rcases List.mem_append.1 hq with hq | hq
    · exact h4 q hq
    · simp only [List.mem_singleton] at hq
      subst hq
      exact h5

/-- A split into two. -/
theorem Split.two {b : UInt8} {l p q : List UInt8} (h : Split b l [p, q]) : l = p ++ b :: q ∧ b ∉ p ∧ b ∉ q := by
  obtain ⟨D, r, e, hj, hn⟩ := h
  have e2 : [p, q] = [p] ++ [q] := rfl
  rw [e2] at e
  obtain ⟨rfl, hr⟩ := List.append_inj' e rfl
  simp only [List.cons.injEq, and_true] at hr
  subst hr
  exact ⟨by rw [← hj]; simp [joinE], hn p (by simp), hn q (by simp)⟩
/-- A text with just one such byte splits into the two sides. -/
theorem Split.of_two {b : UInt8} {p q : List UInt8} (hp : b ∉ p) (hq : b ∉ q) {L : List (List UInt8)} (h : Split b (p ++ b :: q) L) : L = [p, q] := by
  obtain ⟨D, r, rfl, hj, hn⟩ := h
  cases D with
  | nil =>
    exfalso
    simp [joinE] at hj
    exact hn r (by simp) (by rw [hj]; simp)
  | cons x D =>
    have hx : b ∉ x := hn x (by simp)
    have e : joinE b (x :: D) ++ r = x ++ b :: (joinE b D ++ r) := by simp [joinE]
    rw [e] at hj
    have hc := cut_app b x (joinE b D ++ r) hx
    rw [hj, cut_app b p q hp] at hc
    simp only [Prod.mk.injEq, and_true] at hc
    obtain ⟨rfl, hq2⟩ := hc
    cases D with
    | nil => simp [joinE] at hq2; subst hq2; rfl
    | cons y D =>
      exfalso
      apply hq
      rw [hq2]
      simp [joinE]

end Go.Proofs.YtegffibamkaeiaaDoor
