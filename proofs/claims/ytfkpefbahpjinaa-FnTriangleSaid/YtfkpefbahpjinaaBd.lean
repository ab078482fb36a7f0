/- Draws: what holds while a graph is bent. -/
import Derived.Test.YtfkpefbahpjinaaDg
namespace Go.Proofs.Ytfkpefbahpjinaa
open Go.RowKit


/-- What was below lo has stayed, but for block C. -/
def FrL (C lo : Nat) (w w' : World) : Prop := w'.os = w.os ∧ w'.tape = w.tape ∧ w'.output = w.output ∧ w.heap.size ≤ w'.heap.size ∧ ∀ b, b < lo → b ≠ C → w'.heap[b]? = w.heap[b]?
theorem FrL.refl (C lo : Nat) (w : World) : FrL C lo w w := ⟨rfl, rfl, rfl, Nat.le_refl _, fun _ _ _ => rfl⟩
theorem FrL.trans {C lo : Nat} {a b c : World} (h : FrL C lo a b) (h' : FrL C lo b c) : FrL C lo a c :=
  ⟨h'.1.trans h.1, h'.2.1.trans h.2.1, h'.2.2.1.trans h.2.2.1, Nat.le_trans h.2.2.2.1 h'.2.2.2.1, fun k hk hg => (h'.2.2.2.2 k hk hg).trans (h.2.2.2.2 k hk hg)⟩
theorem FrL.of_else {C lo : Nat} {w w' : World} (h : Else C w w') (hl : lo ≤ w.heap.size) : FrL C lo w w' := ⟨h.1, h.2.1, h.2.2.1, h.2.2.2.1, fun b hb hn => h.2.2.2.2 b (by omega) hn⟩
theorem FrL.set {C lo E j : Nat} (w : World) (u : Value) (hE : lo ≤ E) : FrL C lo w (w.setCell ⟨E, j, none⟩ u) := ⟨rfl, rfl, rfl, by simp [World.setCell], fun b hb _ => Below.heap_setCell _ _ _ _ (show b ≠ E by omega)⟩
theorem FrL.grown {C lo : Nat} {w w' : World} {r : Option Nat} (h : w.grownBy w' r) (hr : ∀ k, r = some k → lo ≤ k) (hl : lo ≤ w.heap.size) : FrL C lo w w' := ⟨h.os, h.tape, h.output, h.size, fun b hb _ => h.block b (by omega) (fun e => by have := hr b e.symm; omega)⟩
/-- One block holds the row. -/
theorem RowO.narrow {w : World} {lo hi n c g : Nat} {L : List Ed} (h : RowO w lo hi (.slice (some ⟨g, 0, none⟩) n c) L) : RowO w g (g + 1) (.slice (some ⟨g, 0, none⟩) n c) L ∧ lo ≤ g ∧ g < hi := by
  have h1 := h.own.lt g rfl
  have h2 := h.top g rfl
  refine ⟨⟨?_, ?_, fun k e => by cases e; exact Nat.lt_succ_self _⟩, h1.1, h2⟩
  · obtain ⟨a0, a1⟩ := h.row
    refine ⟨a0, ?_⟩
    rcases a1 with a1 | ⟨g', c', e, b1, b2, b3⟩
    · exact .inl a1
    · cases e; exact .inr ⟨g, c, rfl, Nat.le_refl _, Nat.lt_succ_self _, b3⟩
  · obtain ⟨a0, a1⟩ := h.own
    refine ⟨a0, ?_⟩
    rcases a1 with a1 | ⟨g', c', cur, e, b1, b2⟩
    · exact .inl a1
    · cases e; exact .inr ⟨g, c, cur, rfl, Nat.le_refl _, b2⟩
/-- The edges of a graph whose struct lies in block X. -/
def RowG (wr : World) (X lo : Nat) (gv : Value) (L : List Ed) : Prop := (gv = .slice none 0 0 ∧ L = []) ∨ ∃ g c, gv = .slice (some ⟨g, 0, none⟩) L.length c ∧ RowO wr g (g + 1) gv L ∧ lo ≤ g ∧ g < wr.heap.size ∧ g ≠ X ∧ g ≠ X + 1
theorem RowG.of {w : World} {lo hi X : Nat} {gv : Value} {L : List Ed} (h : RowO w lo hi gv L) (hh : hi ≤ w.heap.size) (hX : hi ≤ X) : RowG w X lo gv L := by
  have h0 := h
  rcases h.own.2 with ⟨e, h1⟩ | ⟨g, c, cur, e, _⟩
  · exact .inl ⟨e, List.eq_nil_of_length_eq_zero h1⟩
  · subst e
    obtain ⟨h1, h2, h3⟩ := h0.narrow
    exact .inr ⟨g, c, rfl, h1, h2, by omega, by omega, by omega⟩
theorem RowG.else_ {wr w2 : World} {X lo C : Nat} {gv : Value} {L : List Ed} (h : RowG wr X lo gv L) (he : Else C wr w2) (hC : C < lo) : RowG w2 X lo gv L := by
  rcases h with h | ⟨g, c, e, h1, h2, h3, h4, h5⟩
  · exact .inl h
  · exact .inr ⟨g, c, e, h1.else_ he (by omega) (.inr (by omega)), h2, by have := he.2.2.2.1; omega, h4, h5⟩
theorem RowG.set {wr : World} {X lo E j : Nat} {gv u : Value} {L : List Ed} (h : RowG wr X lo gv L) (hE : E = X ∨ E = X + 1) : RowG (wr.setCell ⟨E, j, none⟩ u) X lo gv L := by
  rcases h with h | ⟨g, c, e, h1, h2, h3, h4, h5⟩
  · exact .inl h
  · exact .inr ⟨g, c, e, h1.setCell (p := ⟨E, j, none⟩) (by show E < g ∨ g + 1 ≤ E; omega) u, h2, by simpa [World.setCell] using h3, h4, h5⟩
/-- What holds while a graph is bent: X the struct's cell, X + 1 the result's. -/
structure BdK (w : World) (lo C : Nat) (a : Option Addr) (n cp X : Nat) (ow : Option Nat) (M : Int) (gv : Value) (L : List Ed) (wr : World) : Prop where
  old : ∀ p : Addr, a = some p → p.block < lo
  cur : ∃ i, Cur wr C a n cp i
  fr : FrL C lo w wr
  ord : C < lo ∧ lo ≤ X ∧ X + 1 < wr.heap.size
  x0 : wr.cell? ⟨X, 0, none⟩ = some (.int .i64 M)
  x1 : wr.cell? ⟨X, 1, none⟩ = some gv
  xf : ∀ o, wr.frozen? ⟨X, o, none⟩ = false
  r0 : wr.cell? ⟨X + 1, 0, none⟩ = some (.int .i64 0)
  r1 : wr.cell? ⟨X + 1, 1, none⟩ = some (.slice none 0 0)
  rf : ∀ o, wr.frozen? ⟨X + 1, o, none⟩ = false
  row : RowG wr X lo gv L
  top : w.heap.size ≤ X
  ob : ∀ k, gv.ownBlock = some k → ow = some k ∨ w.heap.size ≤ k
  fo : ∀ b, b < w.heap.size → b ≠ C → ow ≠ some b → wr.heap[b]? = w.heap[b]?
section
variable {w wr w2 : World} {lo C n cp X : Nat} {ow : Option Nat} {a : Option Addr} {M : Int} {gv : Value} {L : List Ed}
theorem BdK.else_ (h : BdK w lo C a n cp X ow M gv L wr) (he : Else C wr w2) (hc : ∃ i, Cur w2 C a n cp i) : BdK w lo C a n cp X ow M gv L w2 := by
  have o := h.ord
  have hs := he.2.2.2.1
  have bk : ∀ b, b < wr.heap.size → b ≠ C → w2.heap[b]? = wr.heap[b]? := he.2.2.2.2
  have cc : ∀ b o', b < wr.heap.size → b ≠ C → w2.cell? ⟨b, o', none⟩ = wr.cell? ⟨b, o', none⟩ := fun b o' h1 h2 => World.cell?_of_block (w := wr) (a := ⟨b, o', none⟩) (bk b h1 h2)
  have ff : ∀ b o', b < wr.heap.size → b ≠ C → w2.frozen? ⟨b, o', none⟩ = wr.frozen? ⟨b, o', none⟩ := fun b o' h1 h2 => World.frozen?_of_block (w := wr) (a := ⟨b, o', none⟩) (bk b h1 h2)
  exact ⟨h.old, hc, h.fr.trans (FrL.of_else he (by omega)), ⟨o.1, o.2.1, by omega⟩, by rw [cc _ _ (by omega) (by omega)]; exact h.x0, by rw [cc _ _ (by omega) (by omega)]; exact h.x1, fun o' => by rw [ff _ _ (by omega) (by omega)]; exact h.xf o',
    by rw [cc _ _ (by omega) (by omega)]; exact h.r0, by rw [cc _ _ (by omega) (by omega)]; exact h.r1, fun o' => by rw [ff _ _ (by omega) (by omega)]; exact h.rf o', h.row.else_ he o.1, h.top, h.ob, fun b h1 h2 h3 => (bk b (Nat.lt_of_lt_of_le h1 h.fr.2.2.2.1) h2).trans (h.fo b h1 h2 h3)⟩
theorem BdK.grow (h : BdK w lo C a n cp X ow M gv L wr) (b : Below wr.heap.size wr w2) : BdK w lo C a n cp X ow M gv L w2 := by
  obtain ⟨i, hc⟩ := h.cur
  exact h.else_ (Else.of_below b) ⟨i, hc.below b⟩
theorem BdK.drewN (h : BdK w lo C a n cp X ow M gv L wr) (k : Nat) : BdK w lo C a n cp X ow M gv L (wr.drewN k) := h.grow (below_drewN wr k)
/-- A cell at or above lo is written, of another block than the struct's, the result's and the cursor's. -/
theorem Cur.above {i E j : Nat} {u : Value} (hc : Cur wr C a n cp i) (old : ∀ p : Addr, a = some p → p.block < lo) (hC : C < lo) (hE : lo ≤ E) : Cur (wr.setCell ⟨E, j, none⟩ u) C a n cp i := by
  have bk : ∀ b, b ≠ E → (wr.setCell ⟨E, j, none⟩ u).heap[b]? = wr.heap[b]? := fun b hb => Below.heap_setCell _ _ _ _ hb
  have sz : (wr.setCell ⟨E, j, none⟩ u).heap.size = wr.heap.size := by simp [World.setCell]
  obtain ⟨q, hq⟩ := hc.c2
  have cc : ∀ b o', b ≠ E → (wr.setCell ⟨E, j, none⟩ u).cell? ⟨b, o', none⟩ = wr.cell? ⟨b, o', none⟩ := fun b o' hb => World.cell?_of_block (w := wr) (a := ⟨b, o', none⟩) (bk b hb)
  refine ⟨by rw [cc C _ (by omega)]; exact hc.c0, by rw [cc C _ (by omega)]; exact hc.c1, ⟨q, by rw [cc C _ (by omega)]; exact hq⟩, fun o' => by rw [World.frozen?_of_block (w := wr) (a := ⟨C, o', none⟩) (bk C (by omega))]; exact hc.frz o', by rw [sz]; exact hc.lt, hc.le, fun hn => ?_⟩
  obtain ⟨b, off, e1, e2, e3, e4⟩ := hc.bytes hn
  have hb : b < lo := old _ e1
  refine ⟨b, off, e1, by rw [sz]; exact e2, e3, fun x hx => ?_⟩
  obtain ⟨z, h5, h6⟩ := e4 x hx
  exact ⟨z, by rw [cc b _ (by omega)]; exact h5, h6⟩
theorem BdK.nodes (h : BdK w lo C a n cp X ow M gv L wr) (z : Int) : BdK w lo C a n cp X ow z gv L (wr.setCell ⟨X, 0, none⟩ (.int .i64 z)) := by
  have o := h.ord
  obtain ⟨i, hc⟩ := h.cur
  have sz : (wr.setCell ⟨X, 0, none⟩ (.int .i64 z)).heap.size = wr.heap.size := by simp [World.setCell]
  exact ⟨h.old, ⟨i, hc.above h.old o.1 o.2.1⟩, h.fr.trans (FrL.set _ _ o.2.1), ⟨o.1, o.2.1, by omega⟩, World.cell?_setCell_same _ _ _ h.x0, by rw [World.cell?_setCell_other _ _ _ _ (by simp)]; exact h.x1, fun o' => by simpa using h.xf o',
    by rw [World.cell?_setCell_other _ _ _ _ (by simp)]; exact h.r0, by rw [World.cell?_setCell_other _ _ _ _ (by simp)]; exact h.r1, fun o' => by simpa using h.rf o', h.row.set (.inl rfl), h.top, h.ob, fun b h1 h2 h3 => (Below.heap_setCell _ _ _ _ (show b ≠ X by have := h.top; omega)).trans (h.fo b h1 h2 h3)⟩
end
/-- What a bent graph is. -/
def BdPost (w : World) (lo C : Nat) (a : Option Addr) (n cp : Nat) (ow : Option Nat) (k : Nat) (e : Ending) (w' : World) : Prop := ∃ M gv L', e = .returned (.agg #[.int .i64 M, gv]) ∧ (∃ lo', RowO w' lo' w'.heap.size gv L' ∧ lo ≤ lo') ∧ L'.length ≤ k + 1 ∧ (∃ i, Cur w' C a n cp i) ∧ FrL C lo w w' ∧ (∀ k, gv.ownBlock = some k → ow = some k ∨ w.heap.size ≤ k) ∧ ∀ b, b < w.heap.size → b ≠ C → ow ≠ some b → w'.heap[b]? = w.heap[b]?
theorem BdK.done {w wr : World} {lo C n cp X k : Nat} {ow : Option Nat} {a : Option Addr} {M : Int} {gv : Value} {L : List Ed} (h : BdK w lo C a n cp X ow M gv L wr) (hk : L.length ≤ k + 1) : BdPost w lo C a n cp ow k (.returned (.agg #[.int .i64 M, gv])) ((wr.setCell ⟨X + 1, 0, none⟩ (.int .i64 M)).setCell ⟨X + 1, 1, none⟩ gv) := by
  have o := h.ord
  obtain ⟨i, hc⟩ := h.cur
  refine ⟨M, gv, L, rfl, ?_, hk, ⟨i, (hc.above h.old o.1 (by omega)).above h.old o.1 (by omega)⟩, (h.fr.trans (FrL.set _ _ (by omega))).trans (FrL.set _ _ (by omega)), h.ob, fun b h1 h2 h3 => by have ht := h.top; rw [Below.heap_setCell _ _ _ _ (show b ≠ X + 1 by omega), Below.heap_setCell _ _ _ _ (show b ≠ X + 1 by omega)]; exact h.fo b h1 h2 h3⟩
  have hr := (h.row.set (E := X + 1) (j := 0) (u := .int .i64 M) (.inr rfl)).set (E := X + 1) (j := 1) (u := gv) (.inr rfl)
  rcases hr with ⟨e1, e2⟩ | ⟨g, c, e, h1, h2, h3, _⟩
  · subst e1; subst e2
    exact ⟨lo, RowO.empty _ _ _, Nat.le_refl _⟩
  · exact ⟨g, h1.wide (Nat.le_refl _) (by omega), h2⟩

theorem res2 {w : World} {R : Nat} {u v x y : Value} (h0 : w.cell? ⟨R, 0, none⟩ = some x) (h1 : w.cell? ⟨R, 1, none⟩ = some y) : ((w.setCell ⟨R, 0, none⟩ u).setCell ⟨R, 1, none⟩ v).cell? ⟨R, 0, none⟩ = some u ∧ ((w.setCell ⟨R, 0, none⟩ u).setCell ⟨R, 1, none⟩ v).cell? ⟨R, 1, none⟩ = some v :=
  ⟨by rw [World.cell?_setCell_other _ _ _ _ (by simp)]; exact World.cell?_setCell_same _ _ _ h0, World.cell?_setCell_same _ _ _ (by rw [World.cell?_setCell_other _ _ _ _ (by simp)]; exact h1)⟩
theorem flat_set : ∀ (L : List Ed) (i j : Nat) (z : Int), i < L.length → j < 3 → ∃ L' : List Ed, flat L' = (flat L).set (i * 3 + j) z ∧ L'.length = L.length
  | [], i, j, z, hi, _ => absurd hi (Nat.not_lt_zero _)
  | (a, b, c) :: L, 0, j, z, _, hj => by
    rcases j with _ | _ | _ | j
    · exact ⟨(z, b, c) :: L, rfl, rfl⟩
    · exact ⟨(a, z, c) :: L, rfl, rfl⟩
    · exact ⟨(a, b, z) :: L, rfl, rfl⟩
    · omega
  | (a, b, c) :: L, i + 1, j, z, hi, hj => by
    obtain ⟨L', h1, h2⟩ := flat_set L i j z (by simpa using hi) hj
    refine ⟨(a, b, c) :: L', ?_, by simp [h2]⟩
    have e : (i + 1) * 3 + j = (i * 3 + j) + 3 := by omega
    rw [e]
    show a :: b :: c :: flat L' = (a :: b :: c :: flat L).set (i * 3 + j + 3) z
    rw [h1]
    rfl
theorem RowO.store {w : World} {n c g q : Nat} {L L' : List Ed} {z : Int} (h : RowO w g (g + 1) (.slice (some ⟨g, 0, none⟩) n c) L) (hn : n = L.length) (hq : q < n * 3) (e : flat L' = (flat L).set q z) (hl : L'.length = L.length) : RowO (w.setCell ⟨g, q, none⟩ (.int .i64 z)) g (g + 1) (.slice (some ⟨g, 0, none⟩) n c) L' := by
  subst hn
  have ho := h.own
  have hcell : ∀ j, j < L.length * 3 → w.cell? ⟨g, j, none⟩ = (ints (flat L))[j]? := fun j hj => ho.cellAt j hj
  have hq' : q < (flat L).length := by have := h.row.1; omega
  have hown : (w.setCell ⟨g, q, none⟩ (.int .i64 z)).ownsRow g 53 3 (.slice (some ⟨g, 0, none⟩) L'.length c) L'.length (ints (flat L')) := by
    rw [hl, e, ← ints_set]
    exact (ho.stored q _).1
  refine ⟨?_, by rw [hl] at hown ⊢; exact hown, h.top⟩
  obtain ⟨a0, a1⟩ := h.row
  rw [hl]
  refine ⟨by rw [e, List.length_set]; exact a0, ?_⟩
  rcases a1 with ⟨b0, _⟩ | ⟨g', c', e', b1, b2, b3, b4, b5⟩
  · omega
  · cases e'
    refine .inr ⟨g, c, rfl, b1, b2, b3, fun j y hj => ?_, fun o => by simpa using b5 o⟩
    rw [e, List.getElem?_set] at hj
    by_cases hjq : q = j
    · subst hjq
      rw [if_pos rfl, if_pos hq'] at hj
      cases hj
      obtain ⟨y0, hy0⟩ : ∃ y0, (flat L)[q]? = some y0 := ⟨_, List.getElem?_eq_getElem hq'⟩
      exact World.cell?_setCell_same _ _ _ (b4 q y0 hy0)
    · rw [if_neg hjq] at hj
      rw [World.cell?_setCell_other _ _ _ _ (by intro e; cases e; exact hjq rfl)]
      exact b4 j y hj
theorem BdK.cell {w wr : World} {lo C n cp X m c g q : Nat} {ow : Option Nat} {a : Option Addr} {M z : Int} {L L' : List Ed} (h : BdK w lo C a n cp X ow M (.slice (some ⟨g, 0, none⟩) m c) L wr) (how : ow = some g) (hm : m = L.length) (hq : q < m * 3) (e : flat L' = (flat L).set q z) (hl : L'.length = L.length) : BdK w lo C a n cp X ow M (.slice (some ⟨g, 0, none⟩) m c) L' (wr.setCell ⟨g, q, none⟩ (.int .i64 z)) := by
  have o := h.ord
  obtain ⟨i, hc⟩ := h.cur
  rcases h.row with ⟨e1, _⟩ | ⟨g', c', e1, h1, h2, h3, h4, h5⟩
  · cases e1
  · cases e1
    have sz : (wr.setCell ⟨g, q, none⟩ (.int .i64 z)).heap.size = wr.heap.size := by simp [World.setCell]
    have cc : ∀ b o', b ≠ g → (wr.setCell ⟨g, q, none⟩ (.int .i64 z)).cell? ⟨b, o', none⟩ = wr.cell? ⟨b, o', none⟩ := fun b o' hb => World.cell?_of_block (w := wr) (a := ⟨b, o', none⟩) (Below.heap_setCell _ _ _ _ hb)
    refine ⟨h.old, ⟨i, hc.above h.old o.1 h2⟩, h.fr.trans (FrL.set _ _ h2), ⟨o.1, o.2.1, by omega⟩, by rw [cc _ _ (Ne.symm h4)]; exact h.x0, by rw [cc _ _ (Ne.symm h4)]; exact h.x1, fun o' => by simpa using h.xf o', by rw [cc _ _ (Ne.symm h5)]; exact h.r0, by rw [cc _ _ (Ne.symm h5)]; exact h.r1, fun o' => by simpa using h.rf o', ?_, h.top, h.ob, fun b b1 b2 b3 => (Below.heap_setCell _ _ _ _ (show b ≠ g from fun e => b3 (by rw [how, e]))).trans (h.fo b b1 b2 b3)⟩
    exact .inr ⟨g, c, by rw [hl], RowO.store h1 rfl hq e hl, h2, by rw [sz]; exact h3, h4, h5⟩

theorem RowG.block {wr : World} {X lo : Nat} {gv : Value} {L : List Ed} (h : RowG wr X lo gv L) : ∀ k, gv.ownBlock = some k → lo ≤ k ∧ k < wr.heap.size ∧ k ≠ X ∧ k ≠ X + 1 := by
  rcases h with ⟨e, _⟩ | ⟨g, c, e, h1, h2, h3, h4, h5⟩
  · intro k hk; subst e; cases hk
  · intro k hk; subst e; cases hk; exact ⟨h2, h3, h4, h5⟩
theorem RowG.owns {wr : World} {X lo : Nat} {gv : Value} {L : List Ed} (h : RowG wr X lo gv L) : wr.ownsRow lo 53 3 gv L.length (ints (flat L)) := by
  rcases h with ⟨e, e2⟩ | ⟨g, c, e, h1, h2, _⟩
  · subst e; subst e2; exact World.ownsRow_nil _ _ _ _
  · exact ownsRow_low h1.own h2
theorem BdK.app {w wr w4 : World} {lo C n cp X g4 cap4 : Nat} {ow : Option Nat} {a : Option Addr} {M x y z : Int} {gv : Value} {L : List Ed} (h : BdK w lo C a n cp X ow M gv L wr) (how : ow = gv.ownBlock) (hl : L.length ≤ 1000000) (hown : w4.ownsRow lo 53 3 (.slice (some ⟨g4, 0, none⟩) (L.length + 1) cap4) (L.length + 1) (ints (flat L) ++ [.int .i64 x, .int .i64 y, .int .i64 z]))
    (hg : wr.grownBy w4 gv.ownBlock) (hat : gv.ownBlock = some g4 ∨ g4 = wr.heap.size) : BdK w lo C a n cp X ow M (.slice (some ⟨g4, 0, none⟩) (L.length + 1) cap4) (L ++ [(x, y, z)]) (w4.setCell ⟨X, 1, none⟩ (.slice (some ⟨g4, 0, none⟩) (L.length + 1) cap4)) := by
  have o := h.ord
  have hb := h.row.block
  obtain ⟨i, hc⟩ := h.cur
  have hs := hg.size
  have bk : ∀ b, b < wr.heap.size → (b < lo ∨ b = X ∨ b = X + 1) → w4.heap[b]? = wr.heap[b]? := fun b h1 h2 => hg.block b h1 (fun e => by have := hb b e.symm; omega)
  have cc : ∀ b o', b < wr.heap.size → (b < lo ∨ b = X ∨ b = X + 1) → w4.cell? ⟨b, o', none⟩ = wr.cell? ⟨b, o', none⟩ := fun b o' h1 h2 => World.cell?_of_block (w := wr) (a := ⟨b, o', none⟩) (bk b h1 h2)
  have ff : ∀ b o', b < wr.heap.size → (b < lo ∨ b = X ∨ b = X + 1) → w4.frozen? ⟨b, o', none⟩ = wr.frozen? ⟨b, o', none⟩ := fun b o' h1 h2 => World.frozen?_of_block (w := wr) (a := ⟨b, o', none⟩) (bk b h1 h2)
  have hc4 : Cur w4 C a n cp i := by
    obtain ⟨q, hq⟩ := hc.c2
    have hCl := hc.lt
    refine ⟨by rw [cc C _ hCl (.inl o.1)]; exact hc.c0, by rw [cc C _ hCl (.inl o.1)]; exact hc.c1, ⟨q, by rw [cc C _ hCl (.inl o.1)]; exact hq⟩, fun o' => by rw [ff C _ hCl (.inl o.1)]; exact hc.frz o', by omega, hc.le, fun hn => ?_⟩
    obtain ⟨b, off, e1, e2, e3, e4⟩ := hc.bytes hn
    have hbl : b < lo := h.old _ e1
    refine ⟨b, off, e1, by omega, e3, fun q hq => ?_⟩
    obtain ⟨v, h5, h6⟩ := e4 q hq
    exact ⟨v, by rw [cc b _ e2 (.inl hbl)]; exact h5, h6⟩
  have hg4 := hown.lt g4 rfl
  have hgx : g4 ≠ X ∧ g4 ≠ X + 1 := by
    rcases hat with e | e
    · exact (hb g4 e).2.2
    · constructor <;> omega
  have e : ints (flat (L ++ [(x, y, z)])) = ints (flat L) ++ [.int .i64 x, .int .i64 y, .int .i64 z] := flat_snoc L x y z
  have hl4 : (L ++ [(x, y, z)]).length = L.length + 1 := by simp
  have hRO : RowO w4 lo w4.heap.size (.slice (some ⟨g4, 0, none⟩) (L.length + 1) cap4) (L ++ [(x, y, z)]) := by
    refine ⟨?_, by rw [hl4, e]; exact hown, fun k hk => by cases hk; exact hg4.2⟩
    rw [hl4]
    exact (row_of_own (by rw [e]; exact hown) (by omega)).wide (Nat.le_refl _) (Nat.le_refl _)
  have sz : (w4.setCell ⟨X, 1, none⟩ (.slice (some ⟨g4, 0, none⟩) (L.length + 1) cap4)).heap.size = w4.heap.size := by simp [World.setCell]
  refine ⟨h.old, ⟨i, hc4.above h.old o.1 o.2.1⟩, (h.fr.trans (FrL.grown hg (fun k hk => (hb k hk).1) (by omega))).trans (FrL.set _ _ o.2.1), ⟨o.1, o.2.1, by rw [sz]; omega⟩, by rw [World.cell?_setCell_other _ _ _ _ (by simp), cc X _ (by omega) (.inr (.inl rfl))]; exact h.x0, World.cell?_setCell_same _ _ _ (by rw [cc X _ (by omega) (.inr (.inl rfl))]; exact h.x1), fun o' => by rw [World.frozen?_setCell, ff X _ (by omega) (.inr (.inl rfl))]; exact h.xf o',
    by rw [World.cell?_setCell_other _ _ _ _ (by simp), cc (X + 1) _ o.2.2 (.inr (.inr rfl))]; exact h.r0, by rw [World.cell?_setCell_other _ _ _ _ (by simp), cc (X + 1) _ o.2.2 (.inr (.inr rfl))]; exact h.r1, fun o' => by rw [World.frozen?_setCell, ff (X + 1) _ o.2.2 (.inr (.inr rfl))]; exact h.rf o', ?_, h.top, fun k hk => by
      cases hk
      rcases hat with e | e
      · exact .inl (by rw [how, e])
      · exact .inr (by show w.heap.size ≤ g4; have := h.fr.2.2.2.1; omega), fun b b1 b2 b3 => by
      have hbw := Nat.lt_of_lt_of_le b1 h.fr.2.2.2.1
      rw [Below.heap_setCell _ _ _ _ (show b ≠ X by have := h.top; omega), hg.block b hbw (fun e => b3 (by rw [how, ← e]))]
      exact h.fo b b1 b2 b3⟩
  have hn := (hRO.narrow).1
  exact RowG.set (.inr ⟨g4, cap4, by rw [hl4], hn, hg4.1, hg4.2, hgx.1, hgx.2⟩) (.inl rfl)

end Go.Proofs.Ytfkpefbahpjinaa
