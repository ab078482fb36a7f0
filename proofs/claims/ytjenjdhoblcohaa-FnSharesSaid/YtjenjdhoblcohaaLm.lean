/- The tables of the search of the model, in memory. -/
import Derived.Test.YtjenjdhoblcohaaOi
import Derived.Test.YtjenjdhoblcohaaMp
namespace Go.Proofs.Ytjenjdhoblcohaa
open Go.RowKit


/-- A table of marks as a list. -/
def tabB (M : Nat) (d : Int → Bool) : List Value := (List.range M).map fun (i : Nat) => Value.bool (d (i : Int))
theorem tabB_len (M : Nat) (d : Int → Bool) : (tabB M d).length = M := by simp [tabB]
theorem tabB_at {M i : Nat} (d : Int → Bool) (h : i < M) : (tabB M d)[i]? = some (.bool (d (i : Int))) := by simp [tabB, h]
theorem tabB_set {M i : Nat} (d : Int → Bool) (z : Bool) : (tabB M d).set i (.bool z) = tabB M (fun x => if x = (i : Int) then z else d x) := by
  apply List.ext_getElem?
  intro q
  rw [List.getElem?_set]
  simp only [tabB_len]
  by_cases hq : q < M
  · rw [tabB_at _ hq, tabB_at _ hq]
    by_cases e : i = q
    · subst e; rw [if_pos rfl, if_pos hq, if_pos rfl]
    · rw [if_neg e, if_neg (show ¬ (q : Int) = (i : Int) by omega)]
  · have e1 : (tabB M d)[q]? = none := List.getElem?_eq_none (by rw [tabB_len]; omega)
    have e2 : (tabB M (fun x => if x = (i : Int) then z else d x))[q]? = none := List.getElem?_eq_none (by rw [tabB_len]; omega)
    rw [e1, e2]
    split
    · rw [if_neg (by omega)]
    · rfl
theorem tabI_upd {M i : Nat} (d : Int → Int) (z : Int) : (tabI M d).set i z = tabI M (upd d (i : Int) z) := tabI_set d z
theorem ownsRow_below {w w2 : World} {b T n : Nat} {v : Value} {Z : List Value} (h : w.ownsRow b T 1 v n Z) (k : Below w.heap.size w w2) : w2.ownsRow b T 1 v n Z :=
  h.kept (row := none) ⟨k.os, k.tape, k.output, k.size, fun j hj _ => k.block j hj⟩ (by cases hv : v.ownBlock <;> simp)
theorem ownsRow_aside {w : World} {b T n g j h m c : Nat} {u : Value} {Z Y : List Value} {T' : Nat} {m' c' b' : Nat} (k : w.ownsRow b T 1 (.slice (some ⟨h, 0, none⟩) m c) n Z) (o : w.ownsRow b' T' 1 (.slice (some ⟨g, 0, none⟩) m' c') m' Y) (hne : h ≠ g) : (w.setCell ⟨g, j, none⟩ u).ownsRow b T 1 (.slice (some ⟨h, 0, none⟩) m c) n Z :=
  k.kept (o.stored j u).2 (.inr (by simp [Value.ownBlock]; exact hne))
/-- The tables that the model's search makes: distances to o, steps, ways and which nodes are done. -/
structure LM (w wr : World) (M gb cb gs gw gd : Nat) (D S W : Int → Int) (X : Int → Bool) : Prop where
  below : Below w.heap.size w wr
  rb : wr.ownsRow w.heap.size 3 1 (.slice (some ⟨gb, 0, none⟩) M cb) M (ints (tabI M D))
  rs : wr.ownsRow w.heap.size 3 1 (.slice (some ⟨gs, 0, none⟩) M M) M (ints (tabI M S))
  rw : wr.ownsRow w.heap.size 3 1 (.slice (some ⟨gw, 0, none⟩) M M) M (ints (tabI M W))
  rd : wr.ownsRow w.heap.size 4 1 (.slice (some ⟨gd, 0, none⟩) M M) M (tabB M X)
  ne : (gb ≠ gs ∧ gb ≠ gw ∧ gb ≠ gd) ∧ (gs ≠ gw ∧ gs ≠ gd ∧ gw ≠ gd)
section
variable {w wr w2 : World} {M gb cb gs gw gd : Nat} {D S W : Int → Int} {X : Int → Bool}
theorem LM.grow (h : LM w wr M gb cb gs gw gd D S W X) (b : Below wr.heap.size wr w2) : LM w w2 M gb cb gs gw gd D S W X :=
  ⟨h.below.trans (b.mono h.below.size), ownsRow_below h.rb b, ownsRow_below h.rs b, ownsRow_below h.rw b, ownsRow_below h.rd b, h.ne⟩
theorem LM.drewN (h : LM w wr M gb cb gs gw gd D S W X) (k : Nat) : LM w (wr.drewN k) M gb cb gs gw gd D S W X := h.grow (below_drewN wr k)
theorem LM.lt (h : LM w wr M gb cb gs gw gd D S W X) : (w.heap.size ≤ gb ∧ gb < wr.heap.size) ∧ (w.heap.size ≤ gs ∧ gs < wr.heap.size) ∧ (w.heap.size ≤ gw ∧ gw < wr.heap.size) ∧ (w.heap.size ≤ gd ∧ gd < wr.heap.size) :=
  ⟨h.rb.lt gb rfl, h.rs.lt gs rfl, h.rw.lt gw rfl, h.rd.lt gd rfl⟩
theorem LM.setS (h : LM w wr M gb cb gs gw gd D S W X) (j : Nat) (z : Int) : LM w (wr.setCell ⟨gs, j, none⟩ (.int .i64 z)) M gb cb gs gw gd D (upd S (j : Int) z) W X :=
  ⟨h.below.setCell (p := ⟨gs, j, none⟩) h.lt.2.1.1 _, ownsRow_aside h.rb h.rs h.ne.1.1, by rw [← tabI_upd, ← ints_set]; exact (h.rs.stored j _).1, ownsRow_aside h.rw h.rs h.ne.2.1.symm, ownsRow_aside h.rd h.rs h.ne.2.2.1.symm, h.ne⟩
theorem LM.setW (h : LM w wr M gb cb gs gw gd D S W X) (j : Nat) (z : Int) : LM w (wr.setCell ⟨gw, j, none⟩ (.int .i64 z)) M gb cb gs gw gd D S (upd W (j : Int) z) X :=
  ⟨h.below.setCell (p := ⟨gw, j, none⟩) h.lt.2.2.1.1 _, ownsRow_aside h.rb h.rw h.ne.1.2.1, ownsRow_aside h.rs h.rw h.ne.2.1, by rw [← tabI_upd, ← ints_set]; exact (h.rw.stored j _).1, ownsRow_aside h.rd h.rw h.ne.2.2.2.symm, h.ne⟩
theorem LM.setD (h : LM w wr M gb cb gs gw gd D S W X) (j : Nat) (z : Bool) : LM w (wr.setCell ⟨gd, j, none⟩ (.bool z)) M gb cb gs gw gd D S W (fun x => if x = (j : Int) then z else X x) :=
  ⟨h.below.setCell (p := ⟨gd, j, none⟩) h.lt.2.2.2.1 _, ownsRow_aside h.rb h.rd h.ne.1.2.2, ownsRow_aside h.rs h.rd h.ne.2.2.1, ownsRow_aside h.rw h.rd h.ne.2.2.2, by rw [← tabB_set]; exact (h.rd.stored j _).1, h.ne⟩
theorem LM.b_at (h : LM w wr M gb cb gs gw gd D S W X) {i : Nat} (hi : i < M) : wr.cell? ⟨gb, i, none⟩ = some (.int .i64 (D (i : Int))) := by rw [h.rb.cellAt _ (by omega)]; exact ints_at' (tabI_at _ hi)
theorem LM.s_at (h : LM w wr M gb cb gs gw gd D S W X) {i : Nat} (hi : i < M) : wr.cell? ⟨gs, i, none⟩ = some (.int .i64 (S (i : Int))) := by rw [h.rs.cellAt _ (by omega)]; exact ints_at' (tabI_at _ hi)
theorem LM.w_at (h : LM w wr M gb cb gs gw gd D S W X) {i : Nat} (hi : i < M) : wr.cell? ⟨gw, i, none⟩ = some (.int .i64 (W (i : Int))) := by rw [h.rw.cellAt _ (by omega)]; exact ints_at' (tabI_at _ hi)
theorem LM.d_at (h : LM w wr M gb cb gs gw gd D S W X) {i : Nat} (hi : i < M) : wr.cell? ⟨gd, i, none⟩ = some (.bool (X (i : Int))) := by rw [h.rd.cellAt _ (by omega)]; exact tabB_at _ hi
theorem LM.s_fz (h : LM w wr M gb cb gs gw gd D S W X) (i : Nat) : wr.frozen? ⟨gs, i, none⟩ = false := h.rs.frozenAt i
theorem LM.w_fz (h : LM w wr M gb cb gs gw gd D S W X) (i : Nat) : wr.frozen? ⟨gw, i, none⟩ = false := h.rw.frozenAt i
theorem LM.d_fz (h : LM w wr M gb cb gs gw gd D S W X) (i : Nat) : wr.frozen? ⟨gd, i, none⟩ = false := h.rd.frozenAt i
end

/-- A row of numbers, opened: what its cells hold. -/
theorem row_cells {w : World} {lo hi M : Nat} {v : Value} {Z : List Int} (hM : 0 < M) (h : Row 1 w lo hi v M Z) : ∃ g c, v = .slice (some ⟨g, 0, none⟩) M c ∧ lo ≤ g ∧ g < hi ∧ ∀ j z, Z[j]? = some z → w.cell? ⟨g, j, none⟩ = some (.int .i64 z) := by
  obtain ⟨_, h⟩ := h
  rcases h with ⟨h, _⟩ | ⟨g, c, e, h1, h2, _, h3, _⟩
  · omega
  · exact ⟨g, c, e, h1, h2, h3⟩
theorem own_zeros {w : World} {b g M : Nat} (h : w.ownsRow b 3 1 (.slice (some ⟨g, 0, none⟩) M M) M (madeCells #[Value.int .i64 0] M).toList) : w.ownsRow b 3 1 (.slice (some ⟨g, 0, none⟩) M M) M (ints (tabI M fun _ => 0)) := by
  have e : (madeCells #[Value.int .i64 0] M).toList = ints (tabI M fun _ => 0) := by
    rw [toList_madeCells_one]
    apply List.ext_getElem?
    intro q
    by_cases hq : q < M
    · rw [ints_at' (tabI_at _ hq)]; simp [hq]
    · rw [List.getElem?_eq_none (by simp; omega), List.getElem?_eq_none (by simp [ints, tabI]; omega)]
  rw [← e]; exact h
theorem own_marks {w : World} {b g M : Nat} (h : w.ownsRow b 4 1 (.slice (some ⟨g, 0, none⟩) M M) M (madeCells #[Value.bool false] M).toList) : w.ownsRow b 4 1 (.slice (some ⟨g, 0, none⟩) M M) M (tabB M fun _ => false) := by
  have e : (madeCells #[Value.bool false] M).toList = tabB M fun _ => false := by
    rw [toList_madeCells_one]
    apply List.ext_getElem?
    intro q
    by_cases hq : q < M
    · rw [tabB_at _ hq]; simp [hq]
    · rw [List.getElem?_eq_none (by simp; omega), List.getElem?_eq_none (by simp [tabB]; omega)]
  rw [← e]; exact h
theorem own_grown {w w2 : World} {b T n : Nat} {v : Value} {Z : List Value} (h : w.ownsRow b T 1 v n Z) (k : w.grownBy w2 none) : w2.ownsRow b T 1 v n Z := h.kept k (by cases hv : v.ownBlock <;> simp)
theorem below_grown {w w2 : World} (k : w.grownBy w2 none) : Below w.heap.size w w2 := ⟨k.os, k.tape, k.output, k.size, fun j hj => k.block j hj (by simp)⟩

end Go.Proofs.Ytjenjdhoblcohaa
