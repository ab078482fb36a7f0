/- Valid archives, as mathematics. It imports no program. -/
import Derived.Test.YtnaifkmganngfaaMt
namespace Go.Proofs.Ytnaifkmganngfaa

def vB (v : Int) : Bool := decide (0 ≤ v) && decide (v ≤ 1000000)
theorem vB_iff {v : Int} : vB v = true ↔ 0 ≤ v ∧ v ≤ 1000000 := by simp [vB]
def inB (x a b : Int) : Bool := decide (a ≤ x) && decide (x ≤ b)
theorem inB_iff {x a b : Int} : inB x a b = true ↔ a ≤ x ∧ x ≤ b := by simp [inB]
theorem inB_v (v : Int) : inB v 0 1000000 = vB v := rfl
/-- What a row of n values holds beside its place. -/
def okP (n mn mx s : Int) : Prop := (0 ≤ mn ∧ mn ≤ 1000000) ∧ (0 ≤ mx ∧ mx ≤ 1000000) ∧ n * mn ≤ s ∧ s ≤ n * mx
instance (n mn mx s : Int) : Decidable (okP n mn mx s) := by unfold okP; exact inferInstance
def okB (n mn mx s : Int) : Bool := decide (okP n mn mx s)
theorem okB_iff {n mn mx s : Int} : okB n mn mx s = true ↔ okP n mn mx s := by simp [okB]
/-- A row of n values that begins at e. -/
def rowP (n e : Int) (r : Rw) : Prop := r.1 = e ∧ r.2.1 = n ∧ okP n r.2.2.1 r.2.2.2.1 r.2.2.2.2
/-- How many rows of n values a level holds after t values, and where the first begins. -/
def kept (n t : Int) : Int := if t / n < 8 then t / n else 8
def levP (n t : Int) (l : List Rw) : Prop := (l.length : Int) = kept n t ∧ ∀ (i : Nat) (r : Rw), l[i]? = some r → rowP n ((t / n - kept n t + i) * n) r
def szK (k : Nat) : Int := 4 ^ k
theorem szK_in {k : Nat} (h : k < 3) : 1 ≤ szK k ∧ szK k ≤ 16 := by
  rcases k with _ | _ | _ | k
  · decide
  · decide
  · decide
  · omega
def arP (t : Int) (D : List (List Rw)) : Prop := D.length = 3 ∧ 0 ≤ t ∧ t ≤ 1000000 ∧ ∀ (k : Nat) (l : List Rw), D[k]? = some l → levP (szK k) t l
open Classical in
/-- Whether the archive is valid. -/
noncomputable def arB (t : Int) (D : List (List Rw)) : Bool := decide (arP t D)
open Classical in
noncomputable def levB (n t : Int) (l : List Rw) : Bool := decide (levP n t l)
theorem arB_iff {t : Int} {D : List (List Rw)} : arB t D = true ↔ arP t D := by simp [arB]
theorem levB_iff {n t : Int} {l : List Rw} : levB n t l = true ↔ levP n t l := by simp [levB]
theorem arB_no {t : Int} {D : List (List Rw)} (h : ¬ arP t D) : arB t D = false := by simp [arB, h]
theorem levB_no {n t : Int} {l : List Rw} (h : ¬ levP n t l) : levB n t l = false := by simp [levB, h]
theorem kept_in {n t : Int} (h0 : 0 ≤ t) (hn : 1 ≤ n) : 0 ≤ kept n t ∧ kept n t ≤ 8 ∧ kept n t ≤ t / n ∧ 0 ≤ t / n ∧ t / n ≤ t := by
  have h1 : 0 ≤ t / n := Int.ediv_nonneg h0 (by omega)
  have h2 : t / n ≤ t := Int.ediv_le_self n h0
  unfold kept
  split <;> omega
theorem kept_min {n t : Int} : min (t / n) 8 = kept n t := by unfold kept; split <;> omega
theorem min_max {n mn mx s : Int} (hn : 1 ≤ n) (h : okP n mn mx s) : mn ≤ mx := by
  obtain ⟨_, _, h1, h2⟩ := h
  rcases Int.lt_or_le mx mn with h3 | h3
  · have := Int.mul_lt_mul_of_pos_left h3 (show (0 : Int) < n by omega)
    omega
  · exact h3

end Go.Proofs.Ytnaifkmganngfaa
