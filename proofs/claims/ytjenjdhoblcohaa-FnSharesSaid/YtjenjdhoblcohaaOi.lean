/- Rows of numbers that a call makes. -/
import Derived.Test.YtjenjdhoblcohaaQg
import Derived.Test.YtjenjdhoblcohaaW23
import Derived.Lib.SmallJoins
import Derived.Deep.AppendLies
namespace Go.Proofs.Ytjenjdhoblcohaa
open Go.RowKit


/-- A table of numbers as a list. -/
def tabI (M : Nat) (d : Int → Int) : List Int := (List.range M).map fun (i : Nat) => d (i : Int)
theorem tabI_len (M : Nat) (d : Int → Int) : (tabI M d).length = M := by simp [tabI]
theorem tabI_at {M i : Nat} (d : Int → Int) (h : i < M) : (tabI M d)[i]? = some (d (i : Int)) := by simp [tabI, h]
theorem tabI_succ (M : Nat) (d : Int → Int) : tabI (M + 1) d = tabI M d ++ [d (M : Int)] := by unfold tabI; rw [List.range_succ, List.map_append]; rfl
theorem tabI_set {M i : Nat} (d : Int → Int) (z : Int) : (tabI M d).set i z = tabI M (fun x => if x = (i : Int) then z else d x) := by
  apply List.ext_getElem?
  intro q
  rw [List.getElem?_set]
  simp only [tabI_len]
  by_cases hq : q < M
  · rw [tabI_at _ hq, tabI_at _ hq]
    by_cases e : i = q
    · subst e; rw [if_pos rfl, if_pos hq, if_pos rfl]
    · rw [if_neg e, if_neg (show ¬ (q : Int) = (i : Int) by omega)]
  · have e1 : (tabI M d)[q]? = none := List.getElem?_eq_none (by rw [tabI_len]; omega)
    have e2 : (tabI M (fun x => if x = (i : Int) then z else d x))[q]? = none := List.getElem?_eq_none (by rw [tabI_len]; omega)
    rw [e1, e2]
    split
    · rw [if_neg (by omega)]
    · rfl
theorem tabI_congr {M : Nat} {d d' : Int → Int} (h : ∀ i : Nat, i < M → d (i : Int) = d' (i : Int)) : tabI M d = tabI M d' := by
  unfold tabI
  exact List.map_congr_left fun (i : Nat) hi => h i (List.mem_range.1 hi)
theorem ints_at' {Z : List Int} {i : Nat} {z : Int} (h : Z[i]? = some z) : (ints Z)[i]? = some (.int .i64 z) := by simp [ints, h]
theorem ints_set (Z : List Int) (i : Nat) (z : Int) : (ints Z).set i (.int .i64 z) = ints (Z.set i z) := by simp [ints, List.map_set]
theorem ints_snoc (Z : List Int) (z : Int) : ints Z ++ [.int .i64 z] = ints (Z ++ [z]) := by simp [ints]
/-- A row of numbers of one's own: v holds Z; what was there at w is kept. -/
structure OwnI (w wr : World) (v : Value) (n : Nat) (Z : List Int) : Prop where
  below : Below w.heap.size w wr
  row : wr.ownsRow w.heap.size 3 1 v n (ints Z)
theorem OwnI.nil (w : World) : OwnI w w (.slice none 0 0) 0 [] := ⟨Below.refl _ _, World.ownsRow_nil _ _ _ _⟩
theorem OwnI.grow {w wr w2 : World} {v : Value} {n : Nat} {Z : List Int} (h : OwnI w wr v n Z) (b : Below wr.heap.size wr w2) : OwnI w w2 v n Z :=
  ⟨h.below.trans (b.mono h.below.size), h.row.kept (row := none) ⟨b.os, b.tape, b.output, b.size, fun j hj _ => b.block j hj⟩ (by cases hv : v.ownBlock <;> simp)⟩
theorem OwnI.drew {w wr : World} {v : Value} {n : Nat} {Z : List Int} (h : OwnI w wr v n Z) : OwnI w wr.drew v n Z := h.grow (Below.refl _ _).drew
theorem OwnI.app {w wr w4 : World} {v v' : Value} {n : Nat} {Z : List Int} {z : Int} (h : OwnI w wr v n Z) (hg : wr.grownBy w4 v.ownBlock) (hr : w4.ownsRow w.heap.size 3 1 v' (n + 1) (ints Z ++ [.int .i64 z])) : OwnI w w4 v' (n + 1) (Z ++ [z]) := by
  have hs := h.below.size
  have b := h.below
  refine ⟨⟨hg.os.trans b.os, hg.tape.trans b.tape, hg.output.trans b.output, Nat.le_trans hs hg.size, fun k hk => (hg.block k (by omega) (fun e => ?_)).trans (b.block k hk)⟩, by rw [← ints_snoc]; exact hr⟩
  have := (h.row.lt k e.symm).1
  omega
theorem OwnI.set {w wr : World} {g cap n : Nat} {Z : List Int} (h : OwnI w wr (.slice (some ⟨g, 0, none⟩) n cap) n Z) (j : Nat) (z : Int) : OwnI w (wr.setCell ⟨g, j, none⟩ (.int .i64 z)) (.slice (some ⟨g, 0, none⟩) n cap) n (Z.set j z) :=
  ⟨h.below.setCell (p := ⟨g, j, none⟩) (h.row.lt g rfl).1 _, by rw [← ints_set]; exact (h.row.stored j _).1⟩
theorem OwnI.at {w wr : World} {g cap n : Nat} {Z : List Int} (h : OwnI w wr (.slice (some ⟨g, 0, none⟩) n cap) n Z) {i : Nat} {z : Int} (hi : i < n) (hz : Z[i]? = some z) : wr.cell? ⟨g, i, none⟩ = some (.int .i64 z) := by
  rw [h.row.cellAt _ (by omega)]; exact ints_at' hz
theorem OwnI.frz {w wr : World} {g cap n : Nat} {Z : List Int} (h : OwnI w wr (.slice (some ⟨g, 0, none⟩) n cap) n Z) (i : Nat) : wr.frozen? ⟨g, i, none⟩ = false := h.row.frozenAt i
theorem OwnI.lt {w wr : World} {g cap n : Nat} {Z : List Int} (h : OwnI w wr (.slice (some ⟨g, 0, none⟩) n cap) n Z) : w.heap.size ≤ g ∧ g < wr.heap.size := h.row.lt g rfl
theorem OwnI.form {w wr : World} {v : Value} {n : Nat} {Z : List Int} (h : OwnI w wr v n Z) (hn : 0 < n) : ∃ g cap, v = .slice (some ⟨g, 0, none⟩) n cap := by
  obtain ⟨g, cap, e, _⟩ := h.row.form hn
  exact ⟨g, cap, e⟩
theorem OwnI.toRow {w wr : World} {v : Value} {n : Nat} {Z : List Int} (h : OwnI w wr v n Z) (hl : n ≤ 1100000) : Row 1 wr w.heap.size wr.heap.size v n Z := row_of_own h.row hl
theorem cell_one_new (w : World) (x : Value) (T : TypeId) {B : Nat} (hB : B = w.heap.size) (j : Nat) (u : Value) (h : [x][j]? = some u) : (w.alloc (.cells #[x] T)).cell? ((⟨B, 0, none⟩ : Addr).add j) = some u := by
  subst hB
  rcases j with _ | j
  · simp at h; subst h; simp [Addr.add]
  · simp at h
theorem int_one (z : Int) : ∀ u ∈ [Value.int .i64 z], u.oneCell' = true := by intro u hu; simp at hu; subst hu; rfl
theorem OwnI.lit0 (w : World) : OwnI w (w.alloc (.cells #[] 3)) (.slice (some ⟨w.heap.size, 0, none⟩) 0 0) 0 [] :=
  ⟨(Below.refl _ _).alloc (Nat.le_refl _) _, ⟨rfl, .inr ⟨_, 0, #[], rfl, Nat.le_refl _, heap_alloc_new w (.cells #[] 3), Nat.zero_le _, Nat.zero_le _, rfl, by simp [ints]⟩⟩⟩
theorem below_drewN (w : World) (k : Nat) : Below w.heap.size w (w.drewN k) := ⟨rfl, rfl, rfl, Nat.le_refl _, fun _ _ => rfl⟩
theorem OwnI.drewN {w wr : World} {v : Value} {n : Nat} {Z : List Int} (h : OwnI w wr v n Z) (k : Nat) : OwnI w (wr.drewN k) v n Z := h.grow (below_drewN wr k)

end Go.Proofs.Ytjenjdhoblcohaa
