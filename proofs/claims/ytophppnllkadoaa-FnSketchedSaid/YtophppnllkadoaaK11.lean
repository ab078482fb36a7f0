/- Tables of 4 rows of 16. -/
import Derived.Test.YtophppnllkadoaaK7
import Derived.Test.YtophppnllkadoaaK6
import Derived.Test.YtophppnllkadoaaK3
namespace Go.Proofs.Ytophppnllkadoaa
open Go.RowKit


/-- A table of 4 rows of 16 numbers. -/
def mrow (f : Nat → Nat → Int) (i : Nat) : List Int := (List.range 16).map (f i)
def mat (f : Nat → Nat → Int) : List (List Int) := (List.range 4).map (mrow f)
def upd (f : Nat → Nat → Int) (i j : Nat) (z : Int) : Nat → Nat → Int := fun i' j' => if i' = i ∧ j' = j then z else f i' j'
theorem mat_len (f : Nat → Nat → Int) : (mat f).length = 4 := by simp [mat]
theorem mrow_len (f : Nat → Nat → Int) (i : Nat) : (mrow f i).length = 16 := by simp [mrow]
theorem mat_at (f : Nat → Nat → Int) {i : Nat} (hi : i < 4) : (mat f)[i]? = some (mrow f i) := by simp [mat, hi]
theorem mrow_at (f : Nat → Nat → Int) (i : Nat) {j : Nat} (hj : j < 16) : (mrow f i)[j]? = some (f i j) := by simp [mrow, hj]
theorem mrow_congr {f g : Nat → Nat → Int} {i : Nat} (h : ∀ j, j < 16 → f i j = g i j) : mrow f i = mrow g i := List.map_congr_left fun j hj => h j (List.mem_range.1 hj)
theorem mat_congr {f g : Nat → Nat → Int} (h : ∀ i j, i < 4 → j < 16 → f i j = g i j) : mat f = mat g := List.map_congr_left fun i hi => mrow_congr fun j hj => h i j (List.mem_range.1 hi) hj
theorem mat_set (f : Nat → Nat → Int) {i j : Nat} (hi : i < 4) (hj : j < 16) (z : Int) : (mat f).set i ((mrow f i).set j z) = mat (upd f i j z) := by
  refine List.ext_getElem? fun q => ?_
  by_cases hq : q < 4
  · rw [mat_at _ hq, List.getElem?_set]
    by_cases e : i = q
    · subst e
      rw [if_pos rfl, if_pos (by rw [mat_len]; exact hi)]
      congr 1
      refine List.ext_getElem? fun r => ?_
      by_cases hr : r < 16
      · rw [mrow_at _ _ hr, List.getElem?_set]
        by_cases e : j = r
        · subst e
          rw [if_pos rfl, if_pos (by rw [mrow_len]; exact hj)]
          simp [upd]
        · rw [if_neg e, mrow_at _ _ hr]
          have : ¬ (r = j) := fun h => e h.symm
          simp [upd, this]
      · rw [List.getElem?_eq_none (by rw [List.length_set, mrow_len]; omega), List.getElem?_eq_none (by rw [mrow_len]; omega)]
    · rw [if_neg e, mat_at _ hq]
      congr 1
      have : ¬ (q = i) := fun h => e h.symm
      exact mrow_congr fun r _ => by simp [upd, this]
  · rw [List.getElem?_eq_none (by rw [List.length_set, mat_len]; omega), List.getElem?_eq_none (by rw [mat_len]; omega)]
/-- The cell of a table. -/
def cellD (D : List (List Int)) (i j : Nat) : Int := ((D[i]?.getD [])[j]?).getD 0
theorem mat_cel {D : List (List Int)} (h4 : D.length = 4) (h16 : ∀ (i : Nat) (l : List Int), D[i]? = some l → l.length = 16) : D = mat (cellD D) := by
  refine List.ext_getElem? fun q => ?_
  by_cases hq : q < 4
  · obtain ⟨l, hl⟩ : ∃ l, D[q]? = some l := ⟨_, List.getElem?_eq_getElem (by omega)⟩
    rw [mat_at _ hq, hl]
    congr 1
    have h := h16 q l hl
    refine List.ext_getElem? fun r => ?_
    by_cases hr : r < 16
    · obtain ⟨z, hz⟩ : ∃ z, l[r]? = some z := ⟨_, List.getElem?_eq_getElem (by omega)⟩
      rw [mrow_at _ _ hr, hz]
      simp [cellD, hl, hz]
    · rw [List.getElem?_eq_none (by omega), List.getElem?_eq_none (by rw [mrow_len]; omega)]
  · rw [List.getElem?_eq_none (by omega), List.getElem?_eq_none (by rw [mat_len]; omega)]
theorem zero_mat : List.replicate 4 Z16 = mat (fun _ _ => 0) := by decide
theorem D0_mat : D0 = mat (fun _ _ => 0) := zero_mat
theorem rtot_mat (f : Nat → Nat → Int) : rtot (mat f) ≤ 1100000 := by
  have h : rtot (mat f) = 64 := by simp [mat, List.range_succ, rtot, mrow_len]
  omega
theorem SkP.pos {t : Int} {D : List (List Int)} (h : SkP t D) : 0 ≤ t := by
  obtain ⟨l, hl⟩ : ∃ l, D[0]? = some l := ⟨_, List.getElem?_eq_getElem (by rw [h.1]; decide)⟩
  obtain ⟨h1, h2⟩ := h.2.2 0 l hl
  obtain ⟨x, hx⟩ : ∃ x, l[0]? = some x := ⟨_, List.getElem?_eq_getElem (by rw [h1]; decide)⟩
  have := h2.le hx
  omega
theorem SkP.cl {t : Int} {D : List (List Int)} (h : SkP t D) (i j : Nat) : 0 ≤ cellD D i j ∧ cellD D i j ≤ t := by
  have h0 := h.pos
  unfold cellD
  cases hl : D[i]? with
  | none => simp; exact h0
  | some l =>
    cases hx : l[j]? with
    | none => simp [hx]; exact h0
    | some x =>
      have := (h.2.2 i l hl).2.le hx
      simp [hx]
      exact this
theorem SkP.isMat {t : Int} {D : List (List Int)} (h : SkP t D) : D = mat (Ytophppnllkadoaa.cellD D) := mat_cel h.1 fun i l hl => (h.2.2 i l hl).1
/-- A store into a table. -/
theorem KRow.put {w : World} {lo hi c : Nat} {a : Option Addr} {f : Nat → Nat → Int} (h : KRow w lo hi (.slice a 4 c) 4 (mat f)) {i j : Nat} (hi4 : i < 4) (hj : j < 16) :
    ∃ G y g, a = some ⟨G, 0, none⟩ ∧ lo ≤ G ∧ G < hi ∧ lo ≤ g ∧ g < hi ∧ w.cell? ⟨G, i, none⟩ = some (.slice (some ⟨g, 0, none⟩) 16 y) ∧ w.cell? ⟨g, j, none⟩ = some (.int .i64 (f i j)) ∧ w.frozen? ⟨g, j, none⟩ = false ∧
      ∀ z : Int, KRow (w.setCell ⟨g, j, none⟩ (.int .i64 z)) lo hi (.slice a 4 c) 4 (mat (upd f i j z)) := by
  obtain ⟨G, y, g, h1, h2, h3, h4, h5, h6, h7, h8, h9⟩ := h.store (mat_at f hi4) (mrow_at f i hj)
  rw [mrow_len] at h6
  exact ⟨G, y, g, h1, h2, h3, h4, h5, h6, h7, h8, fun z => by rw [← mat_set f hi4 hj z]; exact h9 z⟩

end Go.Proofs.Ytophppnllkadoaa
