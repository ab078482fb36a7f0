/- A heap of trails in memory. -/
import Derived.Test.YtjenjdhoblcohaaW25
import Derived.Laws.OwnMore
import Derived.Deep.RegionLaw
import Derived.BigRegion
namespace Go.Proofs.Ytjenjdhoblcohaa
open Go.RowKit


/-- A trail as it lies in memory. -/
structure TV where
  c : Int
  g : Nat
  cap : Nat
  ns : List Int
def TV.key (t : TV) : Tr := (t.c, t.ns)
def leV (a b : TV) : Prop := leT a.key b.key
theorem leV_pre : TotPre leV := ⟨fun _ => leT_pre.refl _, fun _ _ _ => leT_pre.trans _ _ _, fun _ _ => leT_pre.total _ _⟩
def tv2 (t : TV) : List Value := [.int .i64 t.c, .slice (some ⟨t.g, 0, none⟩) t.ns.length t.cap]
def tcs (F : Nat → TV) (n : Nat) : List Value := (List.range n).flatMap fun i => tv2 (F i)
theorem tcs_succ (F : Nat → TV) (n : Nat) : tcs F (n + 1) = tcs F n ++ tv2 (F n) := by unfold tcs; rw [List.range_succ, List.flatMap_append]; simp
theorem tcs_len (F : Nat → TV) : ∀ n, (tcs F n).length = n * 2
  | 0 => rfl
  | n + 1 => by rw [tcs_succ, List.length_append, tcs_len F n]; simp [tv2]; omega
theorem tcs_at (F : Nat → TV) : ∀ {n i : Nat}, i < n → (tcs F n)[i * 2]? = some (.int .i64 (F i).c) ∧ (tcs F n)[i * 2 + 1]? = some (.slice (some ⟨(F i).g, 0, none⟩) (F i).ns.length (F i).cap)
  | 0, _, h => absurd h (Nat.not_lt_zero _)
  | n + 1, i, h => by
    rw [tcs_succ]
    by_cases e : i = n
    · subst e
      rw [List.getElem?_append_right (by rw [tcs_len]; exact Nat.le_refl _), List.getElem?_append_right (by rw [tcs_len]; omega), tcs_len]
      simp [tv2]
    · have := tcs_at F (show i < n by omega)
      rw [List.getElem?_append_left (by rw [tcs_len]; omega), List.getElem?_append_left (by rw [tcs_len]; omega)]
      exact this
theorem tcs_congr {F F' : Nat → TV} : ∀ {n : Nat}, (∀ i, i < n → F i = F' i) → tcs F n = tcs F' n
  | 0, _ => rfl
  | n + 1, h => by rw [tcs_succ, tcs_succ, tcs_congr (fun i hi => h i (by omega)), h n (by omega)]
/-- One place written. -/
theorem tcs_set (F : Nat → TV) (t : TV) {n i : Nat} (hi : i < n) : ((tcs F n).set (i * 2) (.int .i64 t.c)).set (i * 2 + 1) (.slice (some ⟨t.g, 0, none⟩) t.ns.length t.cap) = tcs (fun q => if q = i then t else F q) n := by
  apply List.ext_getElem?
  intro q
  rw [List.getElem?_set, List.getElem?_set]
  simp only [List.length_set, tcs_len]
  by_cases hq : q < n * 2
  · obtain ⟨j, hj⟩ : ∃ j, q = j * 2 ∨ q = j * 2 + 1 := ⟨q / 2, by omega⟩
    have hjn : j < n := by omega
    have h2 := tcs_at (fun q => if q = i then t else F q) hjn
    have h3 := tcs_at F hjn
    by_cases e : j = i
    · subst e
      simp only [if_true] at h2
      rcases hj with rfl | rfl
      · rw [if_neg (by omega), if_pos rfl, if_pos (by omega), h2.1]
      · rw [if_pos rfl, if_pos (by omega), h2.2]
    · simp only [if_neg e] at h2
      rcases hj with rfl | rfl
      · rw [if_neg (by omega), if_neg (by omega), h3.1, h2.1]
      · rw [if_neg (by omega), if_neg (by omega), h3.2, h2.2]
  · have e1 : (tcs F n)[q]? = none := List.getElem?_eq_none (by rw [tcs_len]; omega)
    have e2 : (tcs (fun q => if q = i then t else F q) n)[q]? = none := List.getElem?_eq_none (by rw [tcs_len]; omega)
    rw [e1, e2]
    split
    · split
      · omega
      · rfl
    · split
      · split
        · omega
        · rfl
      · rfl

/-- The nodes of a trail lie in memory. -/
def NAt (w : World) (t : TV) : Prop := 0 < t.ns.length ∧ t.ns.length ≤ 1000 ∧ t.g < w.heap.size ∧ Cels w t.g t.ns
/-- A heap of trails: its struct in block X, its items v. -/
def HSt (w : World) (X : Nat) (v : Value) (F : Nat → TV) (n : Nat) : Prop :=
  w.cell? ⟨X, 0, none⟩ = some v ∧ w.cell? ⟨X, 1, none⟩ = some (.func (.func 95) #[] #[]) ∧ w.frozen? ⟨X, 0, none⟩ = false ∧ X < w.heap.size ∧ w.ownsRow (X + 1) 86 2 v n (tcs F n)
/-- Nothing that was there has turned but the heap's struct and its items. -/
def HFr (w w' : World) (X : Nat) (r : Option Nat) : Prop := w'.os = w.os ∧ w'.tape = w.tape ∧ w'.output = w.output ∧ w.heap.size ≤ w'.heap.size ∧ ∀ b, b < w.heap.size → b ≠ X → r ≠ some b → w'.heap[b]? = w.heap[b]?
theorem HFr.refl (w : World) (X : Nat) (r : Option Nat) : HFr w w X r := ⟨rfl, rfl, rfl, Nat.le_refl _, fun _ _ _ _ => rfl⟩
theorem HFr.below {w w' w2 : World} {X : Nat} {r : Option Nat} (h : HFr w w' X r) (hb : Below w'.heap.size w' w2) : HFr w w2 X r := by
  obtain ⟨h1, h2, h3, h4, h5⟩ := h
  have hs := hb.size
  exact ⟨hb.os.trans h1, hb.tape.trans h2, hb.output.trans h3, by omega, fun b hb' hx hr => (hb.block b (by omega)).trans (h5 b hb' hx hr)⟩
theorem HFr.setCell {w w' : World} {X g : Nat} {r : Option Nat} (h : HFr w w' X r) (hg : g = X ∨ r = some g ∨ w.heap.size ≤ g) (o : Nat) (u : Value) : HFr w (w'.setCell ⟨g, o, none⟩ u) X r :=
  ⟨h.1, h.2.1, h.2.2.1, by simpa [World.setCell] using h.2.2.2.1, fun b hb hx hr => by
    rw [Below.heap_setCell _ _ _ _ (show b ≠ g from fun e => by subst e; rcases hg with e | e | e; exact hx e; exact hr e; omega)]
    exact h.2.2.2.2 b hb hx hr⟩
theorem HFr.cell {w w' : World} {X : Nat} {r : Option Nat} (h : HFr w w' X r) {b o : Nat} (hb : b < w.heap.size) (hx : b ≠ X) (hr : r ≠ some b) : w'.cell? ⟨b, o, none⟩ = w.cell? ⟨b, o, none⟩ := World.cell?_of_block (w := w) (a := ⟨b, o, none⟩) (h.2.2.2.2 b hb hx hr)
theorem HFr.drew {w w' : World} {X : Nat} {r : Option Nat} (h : HFr w w' X r) : HFr w w'.drew X r := h
theorem HFr.trans {w w1 w2 : World} {X : Nat} {r r' : Option Nat} (h : HFr w w1 X r) (h' : HFr w1 w2 X r') (hr : ∀ b, b < w.heap.size → r' = some b → r = some b) : HFr w w2 X r :=
  ⟨h'.1.trans h.1, h'.2.1.trans h.2.1, h'.2.2.1.trans h.2.2.1, Nat.le_trans h.2.2.2.1 h'.2.2.2.1, fun b hb hx hn => (h'.2.2.2.2 b (Nat.lt_of_lt_of_le hb h.2.2.2.1) hx (fun e => hn (hr b hb e))).trans (h.2.2.2.2 b hb hx hn)⟩
theorem NAt.fr {w w' : World} {X : Nat} {r : Option Nat} {t : TV} (ht : NAt w t) (h : HFr w w' X r) (hx : t.g ≠ X) (hr : r ≠ some t.g) : NAt w' t :=
  ⟨ht.1, ht.2.1, Nat.lt_of_lt_of_le ht.2.2.1 h.2.2.2.1, ⟨fun q z hz => by rw [h.cell ht.2.2.1 hx hr]; exact ht.2.2.2.at_ q z hz, fun q => (World.frozen?_of_block (w := w) (a := ⟨t.g, q, none⟩) (h.2.2.2.2 t.g ht.2.2.1 hx hr)).trans (ht.2.2.2.fz q)⟩⟩
theorem NAt.below {w w' : World} {t : TV} (ht : NAt w t) (h : Below w.heap.size w w') : NAt w' t :=
  ⟨ht.1, ht.2.1, Nat.lt_of_lt_of_le ht.2.2.1 h.size, ⟨fun q z hz => by rw [h.cell (p := ⟨t.g, q, none⟩) ht.2.2.1]; exact ht.2.2.2.at_ q z hz, fun q => by rw [h.frozen (p := ⟨t.g, q, none⟩) ht.2.2.1]; exact ht.2.2.2.fz q⟩⟩
theorem HSt.below {w w' : World} {X : Nat} {v : Value} {F : Nat → TV} {n : Nat} (h : HSt w X v F n) (hb : Below w.heap.size w w') : HSt w' X v F n := by
  obtain ⟨h1, h2, h3, h4, h5⟩ := h
  have hs := hb.size
  exact ⟨by rw [hb.cell (p := ⟨X, 0, none⟩) h4]; exact h1, by rw [hb.cell (p := ⟨X, 1, none⟩) h4]; exact h2, by rw [hb.frozen (p := ⟨X, 0, none⟩) h4]; exact h3, by omega,
    h5.kept (row := none) ⟨hb.os, hb.tape, hb.output, hb.size, fun j hj _ => hb.block j hj⟩ (by cases hv : v.ownBlock <;> simp)⟩
/-- Where the items lie. -/
theorem HSt.items {w : World} {X : Nat} {v : Value} {F : Nat → TV} {n : Nat} (h : HSt w X v F n) (hn : 0 < n) : ∃ g cap, v = .slice (some ⟨g, 0, none⟩) n cap ∧ X < g ∧ g < w.heap.size ∧ (∀ o, w.frozen? ⟨g, o, none⟩ = false) ∧ ∀ i, i < n → w.cell? ⟨g, i * 2, none⟩ = some (.int .i64 (F i).c) ∧ w.cell? ⟨g, i * 2 + 1, none⟩ = some (.slice (some ⟨(F i).g, 0, none⟩) (F i).ns.length (F i).cap) := by
  have hown := h.2.2.2.2
  obtain ⟨g, cap, rfl, hb, hlt⟩ := hown.form hn
  refine ⟨g, cap, rfl, by omega, hlt, fun o => hown.frozenAt o, fun i hi => ?_⟩
  have := tcs_at F hi
  exact ⟨by rw [hown.cellAt _ (by omega)]; exact this.1, by rw [hown.cellAt _ (by omega)]; exact this.2⟩
/-- One of the items written. -/
theorem HSt.put {w : World} {X g cap : Nat} {F : Nat → TV} {n i : Nat} (t : TV) (h : HSt w X (.slice (some ⟨g, 0, none⟩) n cap) F n) (hi : i < n) :
    HSt ((w.setCell ⟨g, i * 2, none⟩ (.int .i64 t.c)).setCell ⟨g, i * 2 + 1, none⟩ (.slice (some ⟨t.g, 0, none⟩) t.ns.length t.cap)) X (.slice (some ⟨g, 0, none⟩) n cap) (fun q => if q = i then t else F q) n := by
  obtain ⟨h1, h2, h3, h4, h5⟩ := h
  have hgX : X ≠ g := by have := (h5.lt g rfl).1; omega
  refine ⟨by rw [World.cell?_setCell_other _ _ _ _ (by simp <;> omega), World.cell?_setCell_other _ _ _ _ (by simp <;> omega)]; exact h1, by rw [World.cell?_setCell_other _ _ _ _ (by simp <;> omega), World.cell?_setCell_other _ _ _ _ (by simp <;> omega)]; exact h2, by simp [h3], by simpa [World.setCell] using h4, ?_⟩
  rw [← tcs_set F t hi]
  exact ((h5.stored _ _).1.stored _ _).1
theorem Try.info86 : (Try.prog.info? 86).map (fun i => (i.zero, i.size, i.bytes)) = some (some (.agg #[.int .i64 0, .slice none 0 0]), 2, 32) := by kernel_rfl

end Go.Proofs.Ytjenjdhoblcohaa
