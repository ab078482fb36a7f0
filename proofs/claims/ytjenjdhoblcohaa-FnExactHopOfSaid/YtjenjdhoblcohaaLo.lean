/- The mathematics of loops: packets that are forwarded for ever. It imports no program. -/
import Derived.Test.YtjenjdhoblcohaaMg
namespace Go.Proofs.Ytjenjdhoblcohaa
open Go.RowKit

/-- Followed k times, a packet from x is still on its way. -/
def goF (h : List Int) (d : Int) : Nat → Int → Bool
  | 0, _ => true
  | k + 1, x => if x = d ∨ x < 0 ∨ (h.length : Int) ≤ x then false else goF h d k (h.getD x.toNat 0)
/-- Where it is behind k steps. -/
def itF (h : List Int) : Nat → Int → Int
  | 0, x => x
  | k + 1, x => itF h k (h.getD x.toNat 0)
theorem itF_succ (h : List Int) : ∀ (k : Nat) (x : Int), itF h (k + 1) x = h.getD (itF h k x).toNat 0
  | 0, _ => rfl
  | k + 1, x => itF_succ h k (h.getD x.toNat 0)
theorem itF_add (h : List Int) (j : Nat) (x : Int) : ∀ i, itF h (j + i) x = itF h i (itF h j x)
  | 0 => rfl
  | i + 1 => by rw [← Nat.add_assoc, itF_succ, itF_add h j x i, itF_succ]
theorem goF_iff (h : List Int) (d : Int) : ∀ (k : Nat) (x : Int), goF h d k x = true ↔ ∀ i, i < k → ¬ (itF h i x = d ∨ itF h i x < 0 ∨ (h.length : Int) ≤ itF h i x)
  | 0, x => ⟨fun _ i hi => absurd hi (Nat.not_lt_zero i), fun _ => rfl⟩
  | k + 1, x => by
    unfold goF
    split
    · rename_i hb
      exact ⟨fun h => by simp at h, fun hh => absurd hb (hh 0 (by omega))⟩
    · rename_i hb
      rw [goF_iff h d k]
      constructor
      · intro hh i hi
        cases i with
        | zero => exact hb
        | succ i => exact hh i (by omega)
      · intro hh i hi
        exact hh (i + 1) (by omega)
theorem php : ∀ (n : Nat) (f : Nat → Nat), (∀ k, k ≤ n → f k < n) → ∃ i j, i < j ∧ j ≤ n ∧ f i = f j
  | 0, f, h => absurd (h 0 (Nat.le_refl 0)) (Nat.not_lt_zero _)
  | n + 1, f, h => by
    by_cases he : ∃ i, i ≤ n ∧ f i = f (n + 1)
    · obtain ⟨i, hi, e⟩ := he
      exact ⟨i, n + 1, by omega, Nat.le_refl _, e⟩
    · have hne : ∀ i, i ≤ n → f i ≠ f (n + 1) := fun i hi e => he ⟨i, hi, e⟩
      obtain ⟨i, j, h1, h2, h3⟩ := php n (fun k => if f k = n then f (n + 1) else f k) (fun k hk => by
        show (if f k = n then f (n + 1) else f k) < n
        have h1 := h k (by omega)
        have h2 := h (n + 1) (Nat.le_refl _)
        have h3 := hne k hk
        split
        · rename_i e; omega
        · omega)
      refine ⟨i, j, h1, by omega, ?_⟩
      have hi := hne i (by omega)
      have hj := hne j h2
      split at h3 <;> split at h3 <;> omega
/-- Who has been followed as often as there are nodes and one more is followed for ever. -/
theorem goF_ever (h : List Int) (d x : Int) (hx : goF h d (h.length + 1) x = true) (m : Nat) : goF h d m x = true := by
  have hg := (goF_iff h d _ x).1 hx
  obtain ⟨i, j, hij, hj, e⟩ := php h.length (fun k => (itF h k x).toNat) (fun k hk => by
    have := hg k (by omega)
    show (itF h k x).toNat < h.length
    omega)
  have e' : itF h i x = itF h j x := by
    have h1 := hg i (by omega)
    have h2 := hg j (by omega)
    omega
  have per : ∀ q, i ≤ q → itF h (q + (j - i)) x = itF h q x := fun q hq => by
    have e1 : q + (j - i) = j + (q - i) := by omega
    have e2 : q = i + (q - i) := by omega
    rw [e1, itF_add, ← e', ← itF_add, ← e2]
  have all : ∀ q, ¬ (itF h q x = d ∨ itF h q x < 0 ∨ (h.length : Int) ≤ itF h q x) := by
    intro q
    induction q using Nat.strongRecOn with
    | ind q ih =>
      by_cases hq : q < h.length + 1
      · exact hg q hq
      · have := per (q - (j - i)) (by omega)
        rw [Nat.sub_add_cancel (by omega)] at this
        rw [this]
        exact ih _ (by omega)
  exact (goF_iff h d m x).2 fun q _ => all q
theorem goF_mono (h : List Int) (d x : Int) {k m : Nat} (hkm : k ≤ m) (hx : goF h d m x = true) : goF h d k x = true :=
  (goF_iff h d k x).2 fun i hi => (goF_iff h d m x).1 hx i (by omega)
theorem goF_same (h : List Int) (d x : Int) {k : Nat} (hk : h.length + 1 ≤ k) : goF h d k x = goF h d (h.length + 1) x := by
  cases e : goF h d (h.length + 1) x with
  | true => exact goF_ever h d x e k
  | false =>
    cases e2 : goF h d k x with
    | false => rfl
    | true => rw [goF_mono h d x hk e2] at e; cases e
/-- The nodes from which a packet is forwarded for ever. -/
def loopK (h : List Int) (d : Int) (k : Nat) : List Int := ((List.range k).map fun (i : Nat) => (i : Int)).filter fun x => goF h d (h.length + 1) x
def loopsL (h : List Int) (d : Int) : List Int := if h.length ≤ 10 then loopK h d h.length else []
theorem loopK_succ (h : List Int) (d : Int) (k : Nat) : loopK h d (k + 1) = loopK h d k ++ if goF h d (h.length + 1) (k : Int) = true then [(k : Int)] else [] := by
  unfold loopK
  rw [List.range_succ, List.map_append, List.filter_append]
  congr 1
  simp [List.filter]
  split <;> simp_all
theorem loopK_len (h : List Int) (d : Int) (k : Nat) : (loopK h d k).length ≤ k := by
  unfold loopK
  have := List.length_filter_le (fun x => goF h d (h.length + 1) x) ((List.range k).map fun (i : Nat) => (i : Int))
  simpa using this
theorem loopsL_len (h : List Int) (d : Int) : (loopsL h d).length ≤ 10 := by
  unfold loopsL
  split
  · exact Nat.le_trans (loopK_len h d _) (by assumption)
  · simp

end Go.Proofs.Ytjenjdhoblcohaa
