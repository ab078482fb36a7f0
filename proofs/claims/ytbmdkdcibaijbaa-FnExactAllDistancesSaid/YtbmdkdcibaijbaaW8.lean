/- WayCost of the model as a contract. -/
import Derived.Test.YtbmdkdcibaijbaaW7
namespace Go.Proofs.Ytbmdkdcibaijbaa
open Go.RowKit


def wat (W : List Int) (i : Nat) : Int := W.getD i 0
theorem wat_at {W : List Int} {i : Nat} {z : Int} (h : W[i]? = some z) : wat W i = z := by unfold wat; rw [List.getD_eq_getElem?_getD, h]; rfl
/-- Whether node i of the way is one, and stands behind the one before it. -/
def stepB (N : Int) (L : List Ed) (W : List Int) (i : Nat) : Bool := ndB N (wat W i) && (i == 0 || !(cst L (wat W (i - 1)) (wat W i) == 1000000))
/-- What the way's first k nodes cost. -/
def wsum (L : List Ed) (W : List Int) : Nat → Int
  | 0 => 0
  | 1 => 0
  | k + 2 => wsum L W (k + 1) + cst L (wat W k) (wat W (k + 1))
def wcM (N : Int) (L : List Ed) (W : List Int) : Int := if gok N L = true ∧ 0 < W.length ∧ W.length ≤ 300 ∧ ∀ i, i < W.length → stepB N L W i = true then wsum L W W.length else -1
theorem wcM_g {N : Int} {L : List Ed} {W : List Int} (h : gok N L = false) : wcM N L W = -1 := by unfold wcM; rw [if_neg (fun hh => by rw [h] at hh; exact absurd hh.1 (by decide))]
theorem wcM_0 {N : Int} {L : List Ed} {W : List Int} (h : W.length = 0) : wcM N L W = -1 := by unfold wcM; rw [if_neg (fun hh => by omega)]
theorem wcM_big {N : Int} {L : List Ed} {W : List Int} (h : 300 < W.length) : wcM N L W = -1 := by unfold wcM; rw [if_neg (fun hh => by omega)]
theorem wcM_no {N : Int} {L : List Ed} {W : List Int} {i : Nat} (h : i < W.length) (hs : stepB N L W i = false) : wcM N L W = -1 := by
  unfold wcM; rw [if_neg (fun hh => by have := hh.2.2.2 i h; rw [hs] at this; exact absurd this (by decide))]
theorem wcM_yes {N : Int} {L : List Ed} {W : List Int} (hG : gok N L = true) (h0 : 0 < W.length) (h1 : W.length ≤ 300) (hs : ∀ i, i < W.length → stepB N L W i = true) : wcM N L W = wsum L W W.length := by
  unfold wcM; rw [if_pos ⟨hG, h0, h1, hs⟩]
theorem wsum_in {N : Int} {L : List Ed} (hG : gok N L = true) (W : List Int) : ∀ k, 0 ≤ wsum L W k ∧ wsum L W k ≤ 1000000 * k
  | 0 => by simp [wsum]
  | 1 => by simp [wsum]
  | k + 2 => by
    have h1 := wsum_in hG W (k + 1)
    have h2 := cst_bound hG (wat W k) (wat W (k + 1))
    unfold wsum
    push_cast at *
    omega
theorem nd_in {N x : Int} (h : ndB N x = true) (hN : N ≤ 10) : 0 ≤ x ∧ x < 10 := by unfold ndB at h; rw [inB_iff] at h; omega
theorem below_dN {B : Nat} {a w : World} (h : Below B a w) (n : Nat) : Below B a (w.drewN n) := h.trans ⟨rfl, rfl, rfl, Nat.le_refl _, fun _ _ => rfl⟩
/-- The graph's box at the head of a function's memory, and what lies below. -/
def GB (w wr : World) (N : Int) (v : Value) : Prop := wr.cell? ⟨w.heap.size, 0, none⟩ = some (.int .i64 N) ∧ wr.cell? ⟨w.heap.size, 1, none⟩ = some v ∧ w.heap.size < wr.heap.size ∧ Below w.heap.size w wr

end Go.Proofs.Ytbmdkdcibaijbaa
