/- Draws: a graph is drawn. -/
import Derived.Test.YtjenjdhoblcohaaDg
import Derived.Test.YtjenjdhoblcohaaReg
import Derived.Test.YtjenjdhoblcohaaGk
import Derived.Test.YtjenjdhoblcohaaDh
namespace Go.Proofs.Ytjenjdhoblcohaa
open Go.RowKit

/-- What was below lo has stayed, but for block C. -/
def FrL (C lo : Nat) (w w' : World) : Prop := w'.os = w.os ∧ w'.tape = w.tape ∧ w'.output = w.output ∧ w.heap.size ≤ w'.heap.size ∧ ∀ b, b < lo → b ≠ C → w'.heap[b]? = w.heap[b]?
theorem FrL.refl (C lo : Nat) (w : World) : FrL C lo w w := ⟨rfl, rfl, rfl, Nat.le_refl _, fun _ _ _ => rfl⟩
theorem FrL.trans {C lo : Nat} {a b c : World} (h : FrL C lo a b) (h' : FrL C lo b c) : FrL C lo a c :=
  ⟨h'.1.trans h.1, h'.2.1.trans h.2.1, h'.2.2.1.trans h.2.2.1, Nat.le_trans h.2.2.2.1 h'.2.2.2.1, fun k hk hg => (h'.2.2.2.2 k hk hg).trans (h.2.2.2.2 k hk hg)⟩
theorem FrL.of_else {C lo : Nat} {w w' : World} (h : Else C w w') (hl : lo ≤ w.heap.size) : FrL C lo w w' := ⟨h.1, h.2.1, h.2.2.1, h.2.2.2.1, fun b hb hn => h.2.2.2.2 b (by omega) hn⟩
theorem FrL.set {C lo E j : Nat} (w : World) (u : Value) (hE : lo ≤ E) : FrL C lo w (w.setCell ⟨E, j, none⟩ u) := ⟨rfl, rfl, rfl, by simp [World.setCell], fun b hb _ => Below.heap_setCell _ _ _ _ (show b ≠ E by omega)⟩
theorem FrL.grown {C lo : Nat} {w w' : World} {r : Option Nat} (h : w.grownBy w' r) (hr : ∀ k, r = some k → lo ≤ k) (hl : lo ≤ w.heap.size) : FrL C lo w w' := ⟨h.os, h.tape, h.output, h.size, fun b hb _ => h.block b (by omega) (fun e => by have := hr b e.symm; omega)⟩
/-- One block holds the row. -/
theorem RowO.narrow {w : World} {lo hi n c g : Nat} {L : List Ed} (h : RowO w lo hi (.slice (some ⟨g, 0, none⟩) n c) L) : RowO w g (g + 1) (.slice (some ⟨g, 0, none⟩) n c) L ∧ lo ≤ g ∧ g < hi := by
  have h1 := h.own.lt g rfl
  have h2 := h.top g rfl
  refine ⟨⟨?_, ?_, fun k e => by cases e; exact Nat.lt_succ_self _⟩, h1.1, h2⟩
  · obtain ⟨a0, a1⟩ := h.row
    refine ⟨a0, ?_⟩
    rcases a1 with a1 | ⟨g', c', e, b1, b2, b3⟩
    · exact .inl a1
    · cases e; exact .inr ⟨g, c, rfl, Nat.le_refl _, Nat.lt_succ_self _, b3⟩
  · obtain ⟨a0, a1⟩ := h.own
    refine ⟨a0, ?_⟩
    rcases a1 with a1 | ⟨g', c', cur, e, b1, b2⟩
    · exact .inl a1
    · cases e; exact .inr ⟨g, c, cur, rfl, Nat.le_refl _, b2⟩
/-- The edges of a graph whose struct lies in block X. -/
def RowG (wr : World) (X lo : Nat) (gv : Value) (L : List Ed) : Prop := (gv = .slice none 0 0 ∧ L = []) ∨ ∃ g c, gv = .slice (some ⟨g, 0, none⟩) L.length c ∧ RowO wr g (g + 1) gv L ∧ lo ≤ g ∧ g < wr.heap.size ∧ g ≠ X ∧ g ≠ X + 1
theorem RowG.of {w : World} {lo hi X : Nat} {gv : Value} {L : List Ed} (h : RowO w lo hi gv L) (hh : hi ≤ w.heap.size) (hX : hi ≤ X) : RowG w X lo gv L := by
  have h0 := h
  rcases h.own.2 with ⟨e, h1⟩ | ⟨g, c, cur, e, _⟩
  · exact .inl ⟨e, List.eq_nil_of_length_eq_zero h1⟩
  · subst e
    obtain ⟨h1, h2, h3⟩ := h0.narrow
    exact .inr ⟨g, c, rfl, h1, h2, by omega, by omega, by omega⟩
theorem RowG.else_ {wr w2 : World} {X lo C : Nat} {gv : Value} {L : List Ed} (h : RowG wr X lo gv L) (he : Else C wr w2) (hC : C < lo) : RowG w2 X lo gv L := by
  rcases h with h | ⟨g, c, e, h1, h2, h3, h4, h5⟩
  · exact .inl h
  · exact .inr ⟨g, c, e, h1.else_ he (by omega) (.inr (by omega)), h2, by have := he.2.2.2.1; omega, h4, h5⟩
theorem RowG.set {wr : World} {X lo E j : Nat} {gv u : Value} {L : List Ed} (h : RowG wr X lo gv L) (hE : E = X ∨ E = X + 1) : RowG (wr.setCell ⟨E, j, none⟩ u) X lo gv L := by
  rcases h with h | ⟨g, c, e, h1, h2, h3, h4, h5⟩
  · exact .inl h
  · exact .inr ⟨g, c, e, h1.setCell (p := ⟨E, j, none⟩) (by show E < g ∨ g + 1 ≤ E; omega) u, h2, by simpa [World.setCell] using h3, h4, h5⟩
/-- What holds while a graph is bent: X the struct's cell, X + 1 the result's. -/
structure BdK (w : World) (lo C : Nat) (a : Option Addr) (n cp X : Nat) (ow : Option Nat) (M : Int) (gv : Value) (L : List Ed) (wr : World) : Prop where
  old : ∀ p : Addr, a = some p → p.block < lo
  cur : ∃ i, Cur wr C a n cp i
  fr : FrL C lo w wr
  ord : C < lo ∧ lo ≤ X ∧ X + 1 < wr.heap.size
  x0 : wr.cell? ⟨X, 0, none⟩ = some (.int .i64 M)
  x1 : wr.cell? ⟨X, 1, none⟩ = some gv
  xf : ∀ o, wr.frozen? ⟨X, o, none⟩ = false
  r0 : wr.cell? ⟨X + 1, 0, none⟩ = some (.int .i64 0)
  r1 : wr.cell? ⟨X + 1, 1, none⟩ = some (.slice none 0 0)
  rf : ∀ o, wr.frozen? ⟨X + 1, o, none⟩ = false
  row : RowG wr X lo gv L
  top : w.heap.size ≤ X
  ob : ∀ k, gv.ownBlock = some k → ow = some k ∨ w.heap.size ≤ k
  fo : ∀ b, b < w.heap.size → b ≠ C → ow ≠ some b → wr.heap[b]? = w.heap[b]?
section
variable {w wr w2 : World} {lo C n cp X : Nat} {ow : Option Nat} {a : Option Addr} {M : Int} {gv : Value} {L : List Ed}
theorem BdK.else_ (h : BdK w lo C a n cp X ow M gv L wr) (he : Else C wr w2) (hc : ∃ i, Cur w2 C a n cp i) : BdK w lo C a n cp X ow M gv L w2 := by
  have o := h.ord
  have hs := he.2.2.2.1
  have bk : ∀ b, b < wr.heap.size → b ≠ C → w2.heap[b]? = wr.heap[b]? := he.2.2.2.2
  have cc : ∀ b o', b < wr.heap.size → b ≠ C → w2.cell? ⟨b, o', none⟩ = wr.cell? ⟨b, o', none⟩ := fun b o' h1 h2 => World.cell?_of_block (w := wr) (a := ⟨b, o', none⟩) (bk b h1 h2)
  have ff : ∀ b o', b < wr.heap.size → b ≠ C → w2.frozen? ⟨b, o', none⟩ = wr.frozen? ⟨b, o', none⟩ := fun b o' h1 h2 => World.frozen?_of_block (w := wr) (a := ⟨b, o', none⟩) (bk b h1 h2)
  exact ⟨h.old, hc, h.fr.trans (FrL.of_else he (by omega)), ⟨o.1, o.2.1, by omega⟩, by rw [cc _ _ (by omega) (by omega)]; exact h.x0, by rw [cc _ _ (by omega) (by omega)]; exact h.x1, fun o' => by rw [ff _ _ (by omega) (by omega)]; exact h.xf o',
    by rw [cc _ _ (by omega) (by omega)]; exact h.r0, by rw [cc _ _ (by omega) (by omega)]; exact h.r1, fun o' => by rw [ff _ _ (by omega) (by omega)]; exact h.rf o', h.row.else_ he o.1, h.top, h.ob, fun b h1 h2 h3 => (bk b (Nat.lt_of_lt_of_le h1 h.fr.2.2.2.1) h2).trans (h.fo b h1 h2 h3)⟩
theorem BdK.grow (h : BdK w lo C a n cp X ow M gv L wr) (b : Below wr.heap.size wr w2) : BdK w lo C a n cp X ow M gv L w2 := by
  obtain ⟨i, hc⟩ := h.cur
  exact h.else_ (Else.of_below b) ⟨i, hc.below b⟩
theorem BdK.drewN (h : BdK w lo C a n cp X ow M gv L wr) (k : Nat) : BdK w lo C a n cp X ow M gv L (wr.drewN k) := h.grow (below_drewN wr k)
/-- A cell at or above lo is written, of another block than the struct's, the result's and the cursor's. -/
theorem Cur.above {i E j : Nat} {u : Value} (hc : Cur wr C a n cp i) (old : ∀ p : Addr, a = some p → p.block < lo) (hC : C < lo) (hE : lo ≤ E) : Cur (wr.setCell ⟨E, j, none⟩ u) C a n cp i := by
  have bk : ∀ b, b ≠ E → (wr.setCell ⟨E, j, none⟩ u).heap[b]? = wr.heap[b]? := fun b hb => Below.heap_setCell _ _ _ _ hb
  have sz : (wr.setCell ⟨E, j, none⟩ u).heap.size = wr.heap.size := by simp [World.setCell]
  obtain ⟨q, hq⟩ := hc.c2
  have cc : ∀ b o', b ≠ E → (wr.setCell ⟨E, j, none⟩ u).cell? ⟨b, o', none⟩ = wr.cell? ⟨b, o', none⟩ := fun b o' hb => World.cell?_of_block (w := wr) (a := ⟨b, o', none⟩) (bk b hb)
  refine ⟨by rw [cc C _ (by omega)]; exact hc.c0, by rw [cc C _ (by omega)]; exact hc.c1, ⟨q, by rw [cc C _ (by omega)]; exact hq⟩, fun o' => by rw [World.frozen?_of_block (w := wr) (a := ⟨C, o', none⟩) (bk C (by omega))]; exact hc.frz o', by rw [sz]; exact hc.lt, hc.le, fun hn => ?_⟩
  obtain ⟨b, off, e1, e2, e3, e4⟩ := hc.bytes hn
  have hb : b < lo := old _ e1
  refine ⟨b, off, e1, by rw [sz]; exact e2, e3, fun x hx => ?_⟩
  obtain ⟨z, h5, h6⟩ := e4 x hx
  exact ⟨z, by rw [cc b _ (by omega)]; exact h5, h6⟩
theorem BdK.nodes (h : BdK w lo C a n cp X ow M gv L wr) (z : Int) : BdK w lo C a n cp X ow z gv L (wr.setCell ⟨X, 0, none⟩ (.int .i64 z)) := by
  have o := h.ord
  obtain ⟨i, hc⟩ := h.cur
  have sz : (wr.setCell ⟨X, 0, none⟩ (.int .i64 z)).heap.size = wr.heap.size := by simp [World.setCell]
  exact ⟨h.old, ⟨i, hc.above h.old o.1 o.2.1⟩, h.fr.trans (FrL.set _ _ o.2.1), ⟨o.1, o.2.1, by omega⟩, World.cell?_setCell_same _ _ _ h.x0, by rw [World.cell?_setCell_other _ _ _ _ (by simp)]; exact h.x1, fun o' => by simpa using h.xf o',
    by rw [World.cell?_setCell_other _ _ _ _ (by simp)]; exact h.r0, by rw [World.cell?_setCell_other _ _ _ _ (by simp)]; exact h.r1, fun o' => by simpa using h.rf o', h.row.set (.inl rfl), h.top, h.ob, fun b h1 h2 h3 => (Below.heap_setCell _ _ _ _ (show b ≠ X by have := h.top; omega)).trans (h.fo b h1 h2 h3)⟩
end
/-- What a bent graph is. -/
def BdPost (w : World) (lo C : Nat) (a : Option Addr) (n cp : Nat) (ow : Option Nat) (k : Nat) (e : Ending) (w' : World) : Prop := ∃ M gv L', e = .returned (.agg #[.int .i64 M, gv]) ∧ (∃ lo', RowO w' lo' w'.heap.size gv L' ∧ lo ≤ lo') ∧ L'.length ≤ k + 1 ∧ (∃ i, Cur w' C a n cp i) ∧ FrL C lo w w' ∧ (∀ k, gv.ownBlock = some k → ow = some k ∨ w.heap.size ≤ k) ∧ ∀ b, b < w.heap.size → b ≠ C → ow ≠ some b → w'.heap[b]? = w.heap[b]?
theorem BdK.done {w wr : World} {lo C n cp X k : Nat} {ow : Option Nat} {a : Option Addr} {M : Int} {gv : Value} {L : List Ed} (h : BdK w lo C a n cp X ow M gv L wr) (hk : L.length ≤ k + 1) : BdPost w lo C a n cp ow k (.returned (.agg #[.int .i64 M, gv])) ((wr.setCell ⟨X + 1, 0, none⟩ (.int .i64 M)).setCell ⟨X + 1, 1, none⟩ gv) := by
  have o := h.ord
  obtain ⟨i, hc⟩ := h.cur
  refine ⟨M, gv, L, rfl, ?_, hk, ⟨i, (hc.above h.old o.1 (by omega)).above h.old o.1 (by omega)⟩, (h.fr.trans (FrL.set _ _ (by omega))).trans (FrL.set _ _ (by omega)), h.ob, fun b h1 h2 h3 => by have ht := h.top; rw [Below.heap_setCell _ _ _ _ (show b ≠ X + 1 by omega), Below.heap_setCell _ _ _ _ (show b ≠ X + 1 by omega)]; exact h.fo b h1 h2 h3⟩
  have hr := (h.row.set (E := X + 1) (j := 0) (u := .int .i64 M) (.inr rfl)).set (E := X + 1) (j := 1) (u := gv) (.inr rfl)
  rcases hr with ⟨e1, e2⟩ | ⟨g, c, e, h1, h2, h3, _⟩
  · subst e1; subst e2
    exact ⟨lo, RowO.empty _ _ _, Nat.le_refl _⟩
  · exact ⟨g, h1.wide (Nat.le_refl _) (by omega), h2⟩

theorem res2 {w : World} {R : Nat} {u v x y : Value} (h0 : w.cell? ⟨R, 0, none⟩ = some x) (h1 : w.cell? ⟨R, 1, none⟩ = some y) : ((w.setCell ⟨R, 0, none⟩ u).setCell ⟨R, 1, none⟩ v).cell? ⟨R, 0, none⟩ = some u ∧ ((w.setCell ⟨R, 0, none⟩ u).setCell ⟨R, 1, none⟩ v).cell? ⟨R, 1, none⟩ = some v :=
  ⟨by rw [World.cell?_setCell_other _ _ _ _ (by simp)]; exact World.cell?_setCell_same _ _ _ h0, World.cell?_setCell_same _ _ _ (by rw [World.cell?_setCell_other _ _ _ _ (by simp)]; exact h1)⟩
theorem flat_set : ∀ (L : List Ed) (i j : Nat) (z : Int), i < L.length → j < 3 → ∃ L' : List Ed, flat L' = (flat L).set (i * 3 + j) z ∧ L'.length = L.length
  | [], i, j, z, hi, _ => absurd hi (Nat.not_lt_zero _)
  | (a, b, c) :: L, 0, j, z, _, hj => by
    rcases j with _ | _ | _ | j
    · exact ⟨(z, b, c) :: L, rfl, rfl⟩
    · exact ⟨(a, z, c) :: L, rfl, rfl⟩
    · exact ⟨(a, b, z) :: L, rfl, rfl⟩
    · omega
  | (a, b, c) :: L, i + 1, j, z, hi, hj => by
    obtain ⟨L', h1, h2⟩ := flat_set L i j z (by simpa using hi) hj
    refine ⟨(a, b, c) :: L', ?_, by simp [h2]⟩
    have e : (i + 1) * 3 + j = (i * 3 + j) + 3 := by omega
    rw [e]
    show a :: b :: c :: flat L' = (a :: b :: c :: flat L).set (i * 3 + j + 3) z
    rw [h1]
    rfl
theorem RowO.store {w : World} {n c g q : Nat} {L L' : List Ed} {z : Int} (h : RowO w g (g + 1) (.slice (some ⟨g, 0, none⟩) n c) L) (hn : n = L.length) (hq : q < n * 3) (e : flat L' = (flat L).set q z) (hl : L'.length = L.length) : RowO (w.setCell ⟨g, q, none⟩ (.int .i64 z)) g (g + 1) (.slice (some ⟨g, 0, none⟩) n c) L' := by
  subst hn
  have ho := h.own
  have hcell : ∀ j, j < L.length * 3 → w.cell? ⟨g, j, none⟩ = (ints (flat L))[j]? := fun j hj => ho.cellAt j hj
  have hq' : q < (flat L).length := by have := h.row.1; omega
  have hown : (w.setCell ⟨g, q, none⟩ (.int .i64 z)).ownsRow g 96 3 (.slice (some ⟨g, 0, none⟩) L'.length c) L'.length (ints (flat L')) := by
    rw [hl, e, ← ints_set]
    exact (ho.stored q _).1
  refine ⟨?_, by rw [hl] at hown ⊢; exact hown, h.top⟩
  obtain ⟨a0, a1⟩ := h.row
  rw [hl]
  refine ⟨by rw [e, List.length_set]; exact a0, ?_⟩
  rcases a1 with ⟨b0, _⟩ | ⟨g', c', e', b1, b2, b3, b4, b5⟩
  · omega
  · cases e'
    refine .inr ⟨g, c, rfl, b1, b2, b3, fun j y hj => ?_, fun o => by simpa using b5 o⟩
    rw [e, List.getElem?_set] at hj
    by_cases hjq : q = j
    · subst hjq
      rw [if_pos rfl, if_pos hq'] at hj
      cases hj
      obtain ⟨y0, hy0⟩ : ∃ y0, (flat L)[q]? = some y0 := ⟨_, List.getElem?_eq_getElem hq'⟩
      exact World.cell?_setCell_same _ _ _ (b4 q y0 hy0)
    · rw [if_neg hjq] at hj
      rw [World.cell?_setCell_other _ _ _ _ (by intro e; cases e; exact hjq rfl)]
      exact b4 j y hj
theorem BdK.cell {w wr : World} {lo C n cp X m c g q : Nat} {ow : Option Nat} {a : Option Addr} {M z : Int} {L L' : List Ed} (h : BdK w lo C a n cp X ow M (.slice (some ⟨g, 0, none⟩) m c) L wr) (how : ow = some g) (hm : m = L.length) (hq : q < m * 3) (e : flat L' = (flat L).set q z) (hl : L'.length = L.length) : BdK w lo C a n cp X ow M (.slice (some ⟨g, 0, none⟩) m c) L' (wr.setCell ⟨g, q, none⟩ (.int .i64 z)) := by
  have o := h.ord
  obtain ⟨i, hc⟩ := h.cur
  rcases h.row with ⟨e1, _⟩ | ⟨g', c', e1, h1, h2, h3, h4, h5⟩
  · cases e1
  · cases e1
    have sz : (wr.setCell ⟨g, q, none⟩ (.int .i64 z)).heap.size = wr.heap.size := by simp [World.setCell]
    have cc : ∀ b o', b ≠ g → (wr.setCell ⟨g, q, none⟩ (.int .i64 z)).cell? ⟨b, o', none⟩ = wr.cell? ⟨b, o', none⟩ := fun b o' hb => World.cell?_of_block (w := wr) (a := ⟨b, o', none⟩) (Below.heap_setCell _ _ _ _ hb)
    refine ⟨h.old, ⟨i, hc.above h.old o.1 h2⟩, h.fr.trans (FrL.set _ _ h2), ⟨o.1, o.2.1, by omega⟩, by rw [cc _ _ (Ne.symm h4)]; exact h.x0, by rw [cc _ _ (Ne.symm h4)]; exact h.x1, fun o' => by simpa using h.xf o', by rw [cc _ _ (Ne.symm h5)]; exact h.r0, by rw [cc _ _ (Ne.symm h5)]; exact h.r1, fun o' => by simpa using h.rf o', ?_, h.top, h.ob, fun b b1 b2 b3 => (Below.heap_setCell _ _ _ _ (show b ≠ g from fun e => b3 (by rw [how, e]))).trans (h.fo b b1 b2 b3)⟩
    exact .inr ⟨g, c, by rw [hl], RowO.store h1 rfl hq e hl, h2, by rw [sz]; exact h3, h4, h5⟩

theorem RowG.block {wr : World} {X lo : Nat} {gv : Value} {L : List Ed} (h : RowG wr X lo gv L) : ∀ k, gv.ownBlock = some k → lo ≤ k ∧ k < wr.heap.size ∧ k ≠ X ∧ k ≠ X + 1 := by
  rcases h with ⟨e, _⟩ | ⟨g, c, e, h1, h2, h3, h4, h5⟩
  · intro k hk; subst e; cases hk
  · intro k hk; subst e; cases hk; exact ⟨h2, h3, h4, h5⟩
theorem RowG.owns {wr : World} {X lo : Nat} {gv : Value} {L : List Ed} (h : RowG wr X lo gv L) : wr.ownsRow lo 96 3 gv L.length (ints (flat L)) := by
  rcases h with ⟨e, e2⟩ | ⟨g, c, e, h1, h2, _⟩
  · subst e; subst e2; exact World.ownsRow_nil _ _ _ _
  · exact ownsRow_low h1.own h2
theorem BdK.app {w wr w4 : World} {lo C n cp X g4 cap4 : Nat} {ow : Option Nat} {a : Option Addr} {M x y z : Int} {gv : Value} {L : List Ed} (h : BdK w lo C a n cp X ow M gv L wr) (how : ow = gv.ownBlock) (hl : L.length ≤ 1000000) (hown : w4.ownsRow lo 96 3 (.slice (some ⟨g4, 0, none⟩) (L.length + 1) cap4) (L.length + 1) (ints (flat L) ++ [.int .i64 x, .int .i64 y, .int .i64 z]))
    (hg : wr.grownBy w4 gv.ownBlock) (hat : gv.ownBlock = some g4 ∨ g4 = wr.heap.size) : BdK w lo C a n cp X ow M (.slice (some ⟨g4, 0, none⟩) (L.length + 1) cap4) (L ++ [(x, y, z)]) (w4.setCell ⟨X, 1, none⟩ (.slice (some ⟨g4, 0, none⟩) (L.length + 1) cap4)) := by
  have o := h.ord
  have hb := h.row.block
  obtain ⟨i, hc⟩ := h.cur
  have hs := hg.size
  have bk : ∀ b, b < wr.heap.size → (b < lo ∨ b = X ∨ b = X + 1) → w4.heap[b]? = wr.heap[b]? := fun b h1 h2 => hg.block b h1 (fun e => by have := hb b e.symm; omega)
  have cc : ∀ b o', b < wr.heap.size → (b < lo ∨ b = X ∨ b = X + 1) → w4.cell? ⟨b, o', none⟩ = wr.cell? ⟨b, o', none⟩ := fun b o' h1 h2 => World.cell?_of_block (w := wr) (a := ⟨b, o', none⟩) (bk b h1 h2)
  have ff : ∀ b o', b < wr.heap.size → (b < lo ∨ b = X ∨ b = X + 1) → w4.frozen? ⟨b, o', none⟩ = wr.frozen? ⟨b, o', none⟩ := fun b o' h1 h2 => World.frozen?_of_block (w := wr) (a := ⟨b, o', none⟩) (bk b h1 h2)
  have hc4 : Cur w4 C a n cp i := by
    obtain ⟨q, hq⟩ := hc.c2
    have hCl := hc.lt
    refine ⟨by rw [cc C _ hCl (.inl o.1)]; exact hc.c0, by rw [cc C _ hCl (.inl o.1)]; exact hc.c1, ⟨q, by rw [cc C _ hCl (.inl o.1)]; exact hq⟩, fun o' => by rw [ff C _ hCl (.inl o.1)]; exact hc.frz o', by omega, hc.le, fun hn => ?_⟩
    obtain ⟨b, off, e1, e2, e3, e4⟩ := hc.bytes hn
    have hbl : b < lo := h.old _ e1
    refine ⟨b, off, e1, by omega, e3, fun q hq => ?_⟩
    obtain ⟨v, h5, h6⟩ := e4 q hq
    exact ⟨v, by rw [cc b _ e2 (.inl hbl)]; exact h5, h6⟩
  have hg4 := hown.lt g4 rfl
  have hgx : g4 ≠ X ∧ g4 ≠ X + 1 := by
    rcases hat with e | e
    · exact (hb g4 e).2.2
    · constructor <;> omega
  have e : ints (flat (L ++ [(x, y, z)])) = ints (flat L) ++ [.int .i64 x, .int .i64 y, .int .i64 z] := flat_snoc L x y z
  have hl4 : (L ++ [(x, y, z)]).length = L.length + 1 := by simp
  have hRO : RowO w4 lo w4.heap.size (.slice (some ⟨g4, 0, none⟩) (L.length + 1) cap4) (L ++ [(x, y, z)]) := by
    refine ⟨?_, by rw [hl4, e]; exact hown, fun k hk => by cases hk; exact hg4.2⟩
    rw [hl4]
    exact (row_of_own (by rw [e]; exact hown) (by omega)).wide (Nat.le_refl _) (Nat.le_refl _)
  have sz : (w4.setCell ⟨X, 1, none⟩ (.slice (some ⟨g4, 0, none⟩) (L.length + 1) cap4)).heap.size = w4.heap.size := by simp [World.setCell]
  refine ⟨h.old, ⟨i, hc4.above h.old o.1 o.2.1⟩, (h.fr.trans (FrL.grown hg (fun k hk => (hb k hk).1) (by omega))).trans (FrL.set _ _ o.2.1), ⟨o.1, o.2.1, by rw [sz]; omega⟩, by rw [World.cell?_setCell_other _ _ _ _ (by simp), cc X _ (by omega) (.inr (.inl rfl))]; exact h.x0, World.cell?_setCell_same _ _ _ (by rw [cc X _ (by omega) (.inr (.inl rfl))]; exact h.x1), fun o' => by rw [World.frozen?_setCell, ff X _ (by omega) (.inr (.inl rfl))]; exact h.xf o',
    by rw [World.cell?_setCell_other _ _ _ _ (by simp), cc (X + 1) _ o.2.2 (.inr (.inr rfl))]; exact h.r0, by rw [World.cell?_setCell_other _ _ _ _ (by simp), cc (X + 1) _ o.2.2 (.inr (.inr rfl))]; exact h.r1, fun o' => by rw [World.frozen?_setCell, ff (X + 1) _ o.2.2 (.inr (.inr rfl))]; exact h.rf o', ?_, h.top, fun k hk => by
      cases hk
      rcases hat with e | e
      · exact .inl (by rw [how, e])
      · exact .inr (by show w.heap.size ≤ g4; have := h.fr.2.2.2.1; omega), fun b b1 b2 b3 => by
      have hbw := Nat.lt_of_lt_of_le b1 h.fr.2.2.2.1
      rw [Below.heap_setCell _ _ _ _ (show b ≠ X by have := h.top; omega), hg.block b hbw (fun e => b3 (by rw [how, ← e]))]
      exact h.fo b b1 b2 b3⟩
  have hn := (hRO.narrow).1
  exact RowG.set (.inr ⟨g4, cap4, by rw [hl4], hn, hg4.1, hg4.2, hgx.1, hgx.2⟩) (.inl rfl)

set_option maxRecDepth 100000 in
set_option maxHeartbeats 4000000 in
theorem bend_any (C n cp i lo : Nat) (a : Option Addr) (M : Int) (gv : Value) (L : List Ed) (w : World) (h : Cur w C a n cp i) (old : ∀ p : Addr, a = some p → p.block < lo) (hC : C < lo) (hlo : lo ≤ w.heap.size) (hr : RowO w lo w.heap.size gv L) (hl : L.length ≤ 1000) :
    Calls Try.prog 105 #[.pointer (some ⟨C, 0, none⟩), .agg #[.int .i64 M, gv]] w (BdPost w lo C a n cp gv.ownBlock L.length) := by
  have HC := Lib.hid h
  have Hold := Lib.hid old
  have HR := Lib.hid hr
  have hCl := h.lt
  obtain ⟨ga, gc, hgv⟩ := hr.slice
  subst hgv
  obtain ⟨m, hm⟩ : ∃ m, m = L.length := ⟨_, rfl⟩
  obtain ⟨ow, how⟩ : ∃ q, q = (Value.slice ga L.length gc).ownBlock := ⟨_, rfl⟩
  rw [← how]
  have Hob : Hid (∀ k, (Value.slice ga m gc).ownBlock = some k → ow = some k ∨ w.heap.size ≤ k) := Lib.hid fun k hk => .inl (by rw [how, ← hm]; exact hk)
  have How : Hid (∀ k, ga = some ⟨k, 0, none⟩ → ow = some k) := Lib.hid fun k hk => by rw [how, hk]; rfl
  clear how
  rw [← hm] at HR ⊢
  have Hm := Lib.hid hm
  have hm1 : m ≤ 1000 := by omega
  clear h old hr hm hl
  go_enter Try.func105, Try.ntmps105
  go_wp2_with fail
  obtain ⟨w0, hw0⟩ : ∃ qq, qq = ((w.alloc (.cells #[.int .i64 M, .slice ga m gc] 29)).alloc (.cells #[.int .i64 0, .slice none 0 0] 29)) := ⟨_, rfl⟩
  have HK0 : Hid (BdK w lo C a n cp w.heap.size ow M (.slice ga m gc) L w0) := by
    have hs : w0.heap.size = w.heap.size + 1 + 1 := by rw [hw0]; simp
    have hb : Below w.heap.size w w0 := by rw [hw0]; go_grown
    exact ⟨Hold.out, ⟨i, HC.out.below hb⟩, FrL.of_else (Else.of_below hb) hlo, ⟨hC, hlo, by omega⟩, by rw [hw0]; simp, by rw [hw0]; simp, fun o => by rw [hw0]; simp, by rw [hw0]; simp, by rw [hw0]; simp, fun o => by rw [hw0]; simp, (RowG.of HR.out (Nat.le_refl _) (Nat.le_refl _)).else_ (Else.of_below hb) hC, Nat.le_refl _, Hob.out, fun b b1 _ _ => hb.block b b1⟩
  rw [← hw0]
  clear hw0 HC
  obtain ⟨ci0, hc0⟩ := HK0.out.cur
  go_at_call 82
  refine (below_any C a n cp ci0 4 _ hc0 (by omega)).mono ?_
  rintro e w1 ⟨⟨x, rfl, x0, x1, x2⟩, k1, he1⟩
  clear hc0
  have HK1 : Hid (BdK w lo C a n cp w.heap.size ow M (.slice ga m gc) L w1) := HK0.out.else_ he1 k1
  clear he1 k1 HK0
  have hx4 := x1 (by omega)
  clear x1 x2
  have hord := HK1.out.ord
  have hx : x = 0 ∨ x = 1 ∨ x = 2 ∨ x = 3 := by omega
  rcases hx with rfl | rfl | rfl | rfl
  · obtain ⟨zM, hzM⟩ : ∃ z, IntKind.i64.wrap (M - 1) = z := ⟨_, rfl⟩
    have yx0 := HK1.out.x0
    go_wp2_with fail
    obtain ⟨w2, hw2⟩ : ∃ qq, qq = w1.alloc (.cells #[.int .i64 0, .int .i64 1, .int .i64 11, .int .i64 zM] 3) := ⟨_, rfl⟩
    have hb2 : Below w1.heap.size w1 w2 := by rw [hw2]; exact (Below.refl _ _).alloc (Nat.le_refl _) _
    have HL : Hid (ListAt w2 w1.heap.size [0, 1, 11, zM]) := by
      refine ⟨by rw [hw2]; simp, fun q y hy => ?_⟩
      rw [hw2]
      rcases q with _ | _ | _ | _ | q
      · cases hy; simp
      · cases hy; simp
      · cases hy; simp
      · cases hy; simp
      · simp at hy
    have HK2 := Lib.hid (HK1.out.grow hb2)
    rw [← hw2]
    clear hw2 hb2 yx0 hzM
    obtain ⟨ci2, hc2⟩ := HK2.out.cur
    go_at_call 81
    refine (pick_any C a n cp ci2 w1.heap.size 4 4 [0, 1, 11, zM] _ hc2 (by omega) (by omega) rfl HL.out (by omega)).mono ?_
    rintro e w3 ⟨⟨y, rfl, _⟩, k3, he3⟩
    clear hc2
    have HK3 : Hid (BdK w lo C a n cp w.heap.size ow M (.slice ga m gc) L w3) := HK2.out.else_ he3 k3
    clear he3 k3 HK2 HL
    have HK4 := Lib.hid (HK3.out.nodes y)
    have yx0 := HK3.out.x0
    have yx1 := HK3.out.x1
    have yxf0 := HK3.out.xf 0
    have yxf1 := HK3.out.xf 1
    have yr0 := HK3.out.r0
    have yr1 := HK3.out.r1
    have yrf0 := HK3.out.rf 0
    have yrf1 := HK3.out.rf 1
    have zr0 := HK4.out.r0
    have zr1 := HK4.out.r1
    obtain ⟨s0, s1⟩ := res2 (u := .int .i64 y) (v := .slice ga m gc) zr0 zr1
    have t0 := HK4.out.x0
    have t1 := HK4.out.x1
    clear zr0 zr1
    go_wp2_with fail
    exact bodyPost_ret (v := .agg #[.int .i64 y, .slice ga m gc]) (by simp [results, Try.results105, go_sem, s0, s1]) rfl (HK4.out.done (by rw [Hm.out]; omega))
  · rcases m with _ | m
    · have zx0 := HK1.out.x0
      have zx1 := HK1.out.x1
      have zxf0 := HK1.out.xf 0
      have zxf1 := HK1.out.xf 1
      have zr0 := HK1.out.r0
      have zr1 := HK1.out.r1
      have zrf0 := HK1.out.rf 0
      have zrf1 := HK1.out.rf 1
      obtain ⟨s0, s1⟩ := res2 (u := .int .i64 M) (v := .slice ga 0 gc) zr0 zr1
      go_wp2_with fail
      exact bodyPost_ret (v := .agg #[.int .i64 M, .slice ga 0 gc]) (by simp [results, Try.results105, go_sem, s0, s1]) rfl (HK1.out.done (by rw [← Hm.out]; omega))
    · have hrow := HK1.out.row
      rcases hrow with ⟨e1, _⟩ | ⟨g, c, e1, hro, hg1, hg2, hg3, hg4⟩
      · cases e1
      have hmL := Hm.out
      rw [← hmL] at e1
      cases e1
      have HmL := Lib.hid hmL
      have yx1 := HK1.out.x1
      have g1 : (0 : Int) < (m : Int) + 1 := by omega
      have HKd := Lib.hid (HK1.out.grow (w2 := w1.drew) ((Below.refl _ _).drew))
      clear hmL hro hg1 hg2 hg3 hg4
      go_wp2_with fail
      refine wp_region_held_drew (S := (fun w' => w'.cell? ⟨w.heap.size, 1, none⟩ = some (.slice (some ⟨g, 0, none⟩) (m + 1) gc) ∧ Hid (∃ L1, m + 1 = L1.length ∧ BdK w lo C a n cp w.heap.size ow M (.slice (some ⟨g, 0, none⟩) (m + 1) gc) L1 w'))) (by kernel_rfl) ?_ (fun hHeld => ?_)
      · exact ⟨HKd.out.x1, ⟨L, HmL.out, HKd.out⟩⟩
      refine step_read 0 23 rfl rfl (by kernel_rfl) (by kernel_rfl) (by kernel_rfl) (fun _ _ _ h => h) (by rfl) (v := ?_) (fun w hSw => ?_) (by assumption) ?_; rotate_left; (focus ((try dsimp only at hSw); go_simp; first | done | exact rfl)); simp only [List.set]
      refine step_read 1 24 rfl rfl (by kernel_rfl) (by kernel_rfl) (by kernel_rfl) (fun _ _ _ h => h) (by rfl) (v := ?_) (fun w hSw => ?_) (by assumption) ?_; rotate_left; (focus ((try dsimp only at hSw); go_simp; first | done | exact rfl)); simp only [List.set]
      refine step_read 2 25 rfl rfl (by kernel_rfl) (by kernel_rfl) (by kernel_rfl) (fun _ _ _ h => h) (by rfl) (v := ?_) (fun w hSw => ?_) (by assumption) ?_; rotate_left; (focus ((try dsimp only at hSw); go_simp; first | done | exact rfl)); simp only [List.set]
      refine step_read 3 26 rfl rfl (by kernel_rfl) (by kernel_rfl) (by kernel_rfl) (fun _ _ _ h => h) (by rfl) (v := ?_) (fun w hSw => ?_) (by assumption) ?_; rotate_left; (focus ((try dsimp only at hSw); go_simp; first | done | exact rfl)); simp only [List.set]
      refine step_read 4 27 rfl rfl (by kernel_rfl) (by kernel_rfl) (by kernel_rfl) (fun _ _ _ h => h) (by rfl) (v := ?_) (fun w hSw => ?_) (by assumption) ?_; rotate_left; (focus ((try dsimp only at hSw); go_simp; first | done | exact rfl)); simp only [List.set]
      refine step_read 5 28 rfl rfl (by kernel_rfl) (by kernel_rfl) (by kernel_rfl) (fun _ _ _ h => h) (by rfl) (v := ?_) (fun w hSw => ?_) (by assumption) ?_; rotate_left; (focus ((try dsimp only at hSw); go_simp; first | done | exact rfl)); simp only [List.set]
      refine step_read 7 30 rfl rfl (by kernel_rfl) (by kernel_rfl) (by kernel_rfl) (fun _ _ _ h => h) (by rfl) (v := ?_) (fun w hSw => ?_) (by assumption) ?_; rotate_left; (focus ((try dsimp only at hSw); go_simp; first | done | exact rfl)); simp only [List.set]
      refine wpAnyH_ready (rs := [6, 8]) (by kernel_rfl) (by simp) ?_
      refine AllReadyH.cons rfl (fun Kc hK => ?_) (AllReadyH.cons rfl (fun Kc hK => ?_) (AllReadyH.nil))
      · obtain ⟨wD, hwD⟩ : ∃ qq, qq = w1.drew := ⟨_, rfl⟩
        rw [← hwD] at hHeld ⊢
        clear hwD
        go_simp
        obtain ⟨L1, hl1, hk1⟩ := hHeld.2.out
        obtain ⟨ci1, hci1⟩ := hk1.cur
        go_at_call 82
        refine (below_any C a n cp ci1 ((m : Int) + 1) _ hci1 (by omega)).mono ?_
        rintro e w1c ⟨⟨v, rfl, v0, v1, v2⟩, k1, he1⟩
        have HB1 : Hid (∃ L1, m + 1 = L1.length ∧ BdK w lo C a n cp w.heap.size ow M (.slice (some ⟨g, 0, none⟩) (m + 1) gc) L1 w1c) := ⟨L1, hl1, hk1.else_ he1 k1⟩
        have hv := v1 (by omega)
        obtain ⟨j, rfl⟩ : ∃ j : Nat, v = (j : Int) := ⟨v.toNat, by omega⟩
        have q1 : (j : Int) < (m : Int) + 1 := by omega
        clear hl1 hk1 L1 hci1 he1 k1 v1 v2 hHeld
        refine hK.out _ _ ?_ (fun hHeld => ?_)
        · exact ⟨(HB1.out.elim fun _ h => h.2.x1), HB1⟩
        clear hK Kc
        refine wpAnyH_ready (rs := [8]) (by kernel_rfl) (by simp) ?_
        refine AllReadyH.cons rfl (fun Kc hK => ?_) (AllReadyH.nil)
        go_simp
        obtain ⟨w2b, hw2⟩ : ∃ qq, qq = (w1c).alloc (.cells #[.int .i64 0, .int .i64 1000, .int .i64 1001] 3) := ⟨_, rfl⟩
        have hb2 : Below (w1c).heap.size (w1c) w2b := by rw [hw2]; exact (Below.refl _ _).alloc (Nat.le_refl _) _
        have HL2 : Hid (ListAt w2b (w1c).heap.size [0, 1000, 1001]) := by
          refine ⟨by rw [hw2]; simp, fun q y hy => ?_⟩
          rw [hw2]
          rcases q with _ | _ | _ | q
          · cases hy; simp
          · cases hy; simp
          · cases hy; simp
          · simp at hy
        obtain ⟨L1, hl1, hk1⟩ := hHeld.2.out
        obtain ⟨ci2, hci2⟩ := hk1.cur
        have hCb2 := hci2.lt
        have HB2 : Hid (∃ L1, m + 1 = L1.length ∧ BdK w lo C a n cp w.heap.size ow M (.slice (some ⟨g, 0, none⟩) (m + 1) gc) L1 w2b) := ⟨L1, hl1, hk1.grow hb2⟩
        obtain ⟨x2, hx2⟩ : ∃ qq, qq = (w1c).heap.size := ⟨_, rfl⟩
        rw [← hw2]
        have hnb2 : x2 ≠ C := by omega
        try rw [← hx2] at HL2
        try rw [← hx2]
        clear hl1 hk1 L1 hci2 hb2 hw2 hHeld hCb2 hx2
        refine hK.out _ _ ?_ (fun hHeld => ?_)
        · exact ⟨(HB2.out.elim fun _ h => h.2.x1), HB2⟩
        clear hK Kc
        refine wpAnyH_ready (rs := [9]) (by kernel_rfl) (by simp) ?_
        refine AllReadyH.cons rfl (fun Kc hK => ?_) (AllReadyH.nil)
        go_simp
        obtain ⟨L1, hl1, hk1⟩ := hHeld.2.out
        obtain ⟨ci3, hci3⟩ := hk1.cur
        go_at_call 81
        refine (pick_any C a n cp ci3 x2 3 3 [0, 1000, 1001] _ hci3 (by omega) (by omega) rfl HL2.out (by omega)).mono ?_
        rintro e w3c ⟨⟨y, rfl, _⟩, k3, he3⟩
        have HB3 : Hid (∃ L1, m + 1 = L1.length ∧ BdK w lo C a n cp w.heap.size ow M (.slice (some ⟨g, 0, none⟩) (m + 1) gc) L1 w3c) := ⟨L1, hl1, hk1.else_ he3 k3⟩
        clear hl1 hk1 L1 hci3 he3 k3 hHeld
        refine hK.out _ _ ?_ (fun hHeld => ?_)
        · exact ⟨(HB3.out.elim fun _ h => h.2.x1), HB3⟩
        clear hK Kc
        refine step_read 10 33 rfl rfl (by kernel_rfl) (by kernel_rfl) (by kernel_rfl) (fun _ _ _ h => h) (by rfl) (v := ?_) (fun w hSw => ?_) (by assumption) ?_; rotate_left; (focus ((try dsimp only at hSw); go_simp; first | done | exact rfl)); simp only [List.set]
        refine step_read 11 34 rfl rfl (by kernel_rfl) (by kernel_rfl) (by kernel_rfl) (fun _ _ _ h => h) (by rfl) (v := ?_) (fun w hSw => ?_) (by assumption) ?_; rotate_left; (focus ((try dsimp only at hSw); go_simp; first | done | exact rfl)); simp only [List.set]
        refine wpAnyH_ready (rs := [12]) (by kernel_rfl) (by simp) ?_
        refine AllReadyH.cons rfl (fun Kc hK => ?_) (AllReadyH.nil)
        obtain ⟨L1, hl1, hk1⟩ := hHeld.2.out
        rcases hk1.row with ⟨e1, _⟩ | ⟨g', c', e1, hro, hg1, hg2, hg3, hg4⟩
        · cases e1
        rw [← hl1] at e1
        cases e1
        obtain ⟨r, hr⟩ : ∃ r, L1[j]? = some r := ⟨L1[j]'(by omega), List.getElem?_eq_getElem _⟩
        obtain ⟨ea, eb, ec⟩ := r
        obtain ⟨r0, r1, r2⟩ := flat_at L1 j _ hr
        have hown := hro.own
        rw [← hl1] at hown
        have y2 : (w3c).cell? ⟨g, j * 3 + 2, none⟩ = some (.int .i64 ec) := by rw [hown.cellAt _ (by omega), ints_at' r2]
        have fz := hown.frozenAt (j * 3 + 2)
        obtain ⟨L', hL1, hL2⟩ := flat_set L1 j 2 y (by omega) (by omega)
        have HB4 : Hid (∃ L1, m + 1 = L1.length ∧ BdK w lo C a n cp w.heap.size ow M (.slice (some ⟨g, 0, none⟩) (m + 1) gc) L1 ((w3c).setCell ⟨g, j * 3 + 2, none⟩ (.int .i64 y))) := ⟨L', by omega, hk1.cell (How.out _ rfl) hl1 (show j * 3 + 2 < (m + 1) * 3 by omega) hL1 hL2⟩
        clear r0 r1 r2 hr hown hro hL1 hL2 hk1 hl1
        go_simp
        obtain ⟨w4s, hw4⟩ : ∃ qq, qq = (w3c).setCell ⟨g, j * 3 + 2, none⟩ (.int .i64 y) := ⟨_, rfl⟩
        rw [← hw4] at HB4 ⊢
        clear hw4 y2 fz L1 L'
        refine hK.out _ _ ?_ (fun hHeld => ?_)
        · exact ⟨(HB4.out.elim fun _ h => h.2.x1), HB4⟩
        clear hK Kc
        refine wpAnyH_done (by kernel_rfl) ?_ _
        obtain ⟨L2, hl2, hk2⟩ := hHeld.2.out
        have HKE := Lib.hid hk2
        have HL2 := Lib.hid hl2
        clear hk2 hHeld hl2
        have zx0 := HKE.out.x0
        have zx1 := HKE.out.x1
        have zxf0 := HKE.out.xf 0
        have zxf1 := HKE.out.xf 1
        have zr0 := HKE.out.r0
        have zr1 := HKE.out.r1
        have zrf0 := HKE.out.rf 0
        have zrf1 := HKE.out.rf 1
        obtain ⟨s0, s1⟩ := res2 (u := .int .i64 M) (v := .slice (some ⟨g, 0, none⟩) (m + 1) gc) zr0 zr1
        go_wp2_with fail
        exact bodyPost_ret (v := .agg #[.int .i64 M, .slice (some ⟨g, 0, none⟩) (m + 1) gc]) (by simp [results, Try.results105, go_sem, s0, s1]) rfl (HKE.out.done (by have := HL2.out; omega))
      · obtain ⟨wD, hwD⟩ : ∃ qq, qq = w1.drew := ⟨_, rfl⟩
        rw [← hwD] at hHeld ⊢
        clear hwD
        go_simp
        obtain ⟨w1b, hw1⟩ : ∃ qq, qq = (wD).alloc (.cells #[.int .i64 0, .int .i64 1000, .int .i64 1001] 3) := ⟨_, rfl⟩
        have hb1 : Below (wD).heap.size (wD) w1b := by rw [hw1]; exact (Below.refl _ _).alloc (Nat.le_refl _) _
        have HL1 : Hid (ListAt w1b (wD).heap.size [0, 1000, 1001]) := by
          refine ⟨by rw [hw1]; simp, fun q y hy => ?_⟩
          rw [hw1]
          rcases q with _ | _ | _ | q
          · cases hy; simp
          · cases hy; simp
          · cases hy; simp
          · simp at hy
        obtain ⟨L1, hl1, hk1⟩ := hHeld.2.out
        obtain ⟨ci1, hci1⟩ := hk1.cur
        have hCb1 := hci1.lt
        have HB1 : Hid (∃ L1, m + 1 = L1.length ∧ BdK w lo C a n cp w.heap.size ow M (.slice (some ⟨g, 0, none⟩) (m + 1) gc) L1 w1b) := ⟨L1, hl1, hk1.grow hb1⟩
        obtain ⟨x1, hx1⟩ : ∃ qq, qq = (wD).heap.size := ⟨_, rfl⟩
        rw [← hw1]
        have hnb1 : x1 ≠ C := by omega
        try rw [← hx1] at HL1
        try rw [← hx1]
        clear hl1 hk1 L1 hci1 hb1 hw1 hHeld hCb1 hx1
        refine hK.out _ _ ?_ (fun hHeld => ?_)
        · exact ⟨(HB1.out.elim fun _ h => h.2.x1), HB1⟩
        clear hK Kc
        refine wpAnyH_ready (rs := [6]) (by kernel_rfl) (by simp) ?_
        refine AllReadyH.cons rfl (fun Kc hK => ?_) (AllReadyH.nil)
        go_simp
        obtain ⟨L1, hl1, hk1⟩ := hHeld.2.out
        obtain ⟨ci2, hci2⟩ := hk1.cur
        go_at_call 82
        refine (below_any C a n cp ci2 ((m : Int) + 1) _ hci2 (by omega)).mono ?_
        rintro e w2c ⟨⟨v, rfl, v0, v1, v2⟩, k2, he2⟩
        have HB2 : Hid (∃ L1, m + 1 = L1.length ∧ BdK w lo C a n cp w.heap.size ow M (.slice (some ⟨g, 0, none⟩) (m + 1) gc) L1 w2c) := ⟨L1, hl1, hk1.else_ he2 k2⟩
        have HL2 := Lib.hid (HL1.out.else_ he2 hnb1)
        have hv := v1 (by omega)
        obtain ⟨j, rfl⟩ : ∃ j : Nat, v = (j : Int) := ⟨v.toNat, by omega⟩
        have q1 : (j : Int) < (m : Int) + 1 := by omega
        clear hl1 hk1 L1 hci2 he2 k2 v1 v2 hHeld
        refine hK.out _ _ ?_ (fun hHeld => ?_)
        · exact ⟨(HB2.out.elim fun _ h => h.2.x1), HB2⟩
        clear hK Kc
        refine wpAnyH_ready (rs := [9]) (by kernel_rfl) (by simp) ?_
        refine AllReadyH.cons rfl (fun Kc hK => ?_) (AllReadyH.nil)
        go_simp
        obtain ⟨L1, hl1, hk1⟩ := hHeld.2.out
        obtain ⟨ci3, hci3⟩ := hk1.cur
        go_at_call 81
        refine (pick_any C a n cp ci3 x1 3 3 [0, 1000, 1001] _ hci3 (by omega) (by omega) rfl HL2.out (by omega)).mono ?_
        rintro e w3c ⟨⟨y, rfl, _⟩, k3, he3⟩
        have HB3 : Hid (∃ L1, m + 1 = L1.length ∧ BdK w lo C a n cp w.heap.size ow M (.slice (some ⟨g, 0, none⟩) (m + 1) gc) L1 w3c) := ⟨L1, hl1, hk1.else_ he3 k3⟩
        clear hl1 hk1 L1 hci3 he3 k3 hHeld
        refine hK.out _ _ ?_ (fun hHeld => ?_)
        · exact ⟨(HB3.out.elim fun _ h => h.2.x1), HB3⟩
        clear hK Kc
        refine step_read 10 33 rfl rfl (by kernel_rfl) (by kernel_rfl) (by kernel_rfl) (fun _ _ _ h => h) (by rfl) (v := ?_) (fun w hSw => ?_) (by assumption) ?_; rotate_left; (focus ((try dsimp only at hSw); go_simp; first | done | exact rfl)); simp only [List.set]
        refine step_read 11 34 rfl rfl (by kernel_rfl) (by kernel_rfl) (by kernel_rfl) (fun _ _ _ h => h) (by rfl) (v := ?_) (fun w hSw => ?_) (by assumption) ?_; rotate_left; (focus ((try dsimp only at hSw); go_simp; first | done | exact rfl)); simp only [List.set]
        refine wpAnyH_ready (rs := [12]) (by kernel_rfl) (by simp) ?_
        refine AllReadyH.cons rfl (fun Kc hK => ?_) (AllReadyH.nil)
        obtain ⟨L1, hl1, hk1⟩ := hHeld.2.out
        rcases hk1.row with ⟨e1, _⟩ | ⟨g', c', e1, hro, hg1, hg2, hg3, hg4⟩
        · cases e1
        rw [← hl1] at e1
        cases e1
        obtain ⟨r, hr⟩ : ∃ r, L1[j]? = some r := ⟨L1[j]'(by omega), List.getElem?_eq_getElem _⟩
        obtain ⟨ea, eb, ec⟩ := r
        obtain ⟨r0, r1, r2⟩ := flat_at L1 j _ hr
        have hown := hro.own
        rw [← hl1] at hown
        have y2 : (w3c).cell? ⟨g, j * 3 + 2, none⟩ = some (.int .i64 ec) := by rw [hown.cellAt _ (by omega), ints_at' r2]
        have fz := hown.frozenAt (j * 3 + 2)
        obtain ⟨L', hL1, hL2⟩ := flat_set L1 j 2 y (by omega) (by omega)
        have HB4 : Hid (∃ L1, m + 1 = L1.length ∧ BdK w lo C a n cp w.heap.size ow M (.slice (some ⟨g, 0, none⟩) (m + 1) gc) L1 ((w3c).setCell ⟨g, j * 3 + 2, none⟩ (.int .i64 y))) := ⟨L', by omega, hk1.cell (How.out _ rfl) hl1 (show j * 3 + 2 < (m + 1) * 3 by omega) hL1 hL2⟩
        clear r0 r1 r2 hr hown hro hL1 hL2 hk1 hl1
        go_simp
        obtain ⟨w4s, hw4⟩ : ∃ qq, qq = (w3c).setCell ⟨g, j * 3 + 2, none⟩ (.int .i64 y) := ⟨_, rfl⟩
        rw [← hw4] at HB4 ⊢
        clear hw4 y2 fz L1 L'
        refine hK.out _ _ ?_ (fun hHeld => ?_)
        · exact ⟨(HB4.out.elim fun _ h => h.2.x1), HB4⟩
        clear hK Kc
        refine wpAnyH_done (by kernel_rfl) ?_ _
        obtain ⟨L2, hl2, hk2⟩ := hHeld.2.out
        have HKE := Lib.hid hk2
        have HL2 := Lib.hid hl2
        clear hk2 hHeld hl2
        have zx0 := HKE.out.x0
        have zx1 := HKE.out.x1
        have zxf0 := HKE.out.xf 0
        have zxf1 := HKE.out.xf 1
        have zr0 := HKE.out.r0
        have zr1 := HKE.out.r1
        have zrf0 := HKE.out.rf 0
        have zrf1 := HKE.out.rf 1
        obtain ⟨s0, s1⟩ := res2 (u := .int .i64 M) (v := .slice (some ⟨g, 0, none⟩) (m + 1) gc) zr0 zr1
        go_wp2_with fail
        exact bodyPost_ret (v := .agg #[.int .i64 M, .slice (some ⟨g, 0, none⟩) (m + 1) gc]) (by simp [results, Try.results105, go_sem, s0, s1]) rfl (HKE.out.done (by have := HL2.out; omega))
  · rcases m with _ | m
    · have zx0 := HK1.out.x0
      have zx1 := HK1.out.x1
      have zxf0 := HK1.out.xf 0
      have zxf1 := HK1.out.xf 1
      have zr0 := HK1.out.r0
      have zr1 := HK1.out.r1
      have zrf0 := HK1.out.rf 0
      have zrf1 := HK1.out.rf 1
      obtain ⟨s0, s1⟩ := res2 (u := .int .i64 M) (v := .slice ga 0 gc) zr0 zr1
      go_wp2_with fail
      exact bodyPost_ret (v := .agg #[.int .i64 M, .slice ga 0 gc]) (by simp [results, Try.results105, go_sem, s0, s1]) rfl (HK1.out.done (by rw [← Hm.out]; omega))
    · have hrow := HK1.out.row
      rcases hrow with ⟨e1, _⟩ | ⟨g, c, e1, hro, hg1, hg2, hg3, hg4⟩
      · cases e1
      have hmL := Hm.out
      rw [← hmL] at e1
      cases e1
      obtain ⟨iE, hi, hz0, hz1, hz2⟩ := info_parts Try.info96
      have IE := Lib.hid (And.intro hi (And.intro hz0 (And.intro hz1 hz2)))
      have HKd := Lib.hid (HK1.out.grow (w2 := w1.drew) ((Below.refl _ _).drew))
      obtain ⟨r, hr⟩ : ∃ r, L[0]? = some r := ⟨L[0]'(by omega), List.getElem?_eq_getElem _⟩
      obtain ⟨ea, eb, ec⟩ := r
      obtain ⟨r0, r1, r2⟩ := flat_at L 0 _ hr
      have hown := HKd.out.row.owns
      rw [← hmL] at hown
      have y0 : w1.drew.cell? ⟨g, 0, none⟩ = some (.int .i64 ea) := by rw [hown.cellAt 0 (by omega), ints_at' (by simpa using r0)]
      have y1 : w1.drew.cell? ⟨g, 1, none⟩ = some (.int .i64 eb) := by rw [hown.cellAt 1 (by omega), ints_at' (by simpa using r1)]
      have y2 : w1.drew.cell? ⟨g, 2, none⟩ = some (.int .i64 ec) := by rw [hown.cellAt 2 (by omega), ints_at' (by simpa using r2)]
      have HmL := Lib.hid hmL
      have yx1 := HK1.out.x1
      have g1 : (0 : Int) < (m : Int) + 1 := by omega
      clear hmL hro hg1 hg2 hg3 hg4 r0 r1 r2 hr hown hi hz0 hz1 hz2
      go_wp2_with fail
      refine wp_region_held_drew (S := (fun _ => True)) (by kernel_rfl) ?_ (fun hHeld => ?_)
      · trivial
      refine step_read 0 41 rfl rfl (by kernel_rfl) (by kernel_rfl) (by kernel_rfl) (fun _ _ _ h => h) (by rfl) (v := ?_) (fun w hSw => ?_) (by assumption) ?_; rotate_left; (focus ((try dsimp only at hSw); go_simp; first | done | exact rfl)); simp only [List.set]
      refine step_read 2 43 rfl rfl (by kernel_rfl) (by kernel_rfl) (by kernel_rfl) (fun _ _ _ h => h) (by rfl) (v := ?_) (fun w hSw => ?_) (by assumption) ?_; rotate_left; (focus ((try dsimp only at hSw); go_simp; first | done | exact rfl)); simp only [List.set]
      refine wpAnyH_ready (rs := [1, 3]) (by kernel_rfl) (by simp) ?_
      refine AllReadyH.cons rfl (fun Kc hK => ?_) (AllReadyH.cons rfl (fun Kc hK => ?_) (AllReadyH.nil))
      · obtain ⟨wD, hwD⟩ : ∃ qq, qq = w1.drew := ⟨_, rfl⟩
        rw [← hwD] at HKd y0 y1 y2 ⊢
        clear hwD
        have zx1 := HKd.out.x1
        go_simp
        clear zx1
        refine hK.out _ _ ?_ (fun hHeld => ?_)
        · trivial
        clear hK Kc
        refine wpAnyH_ready (rs := [3]) (by kernel_rfl) (by simp) ?_
        refine AllReadyH.cons rfl (fun Kc hK => ?_) (AllReadyH.nil)
        have zx1 := HKd.out.x1
        go_simp
        clear zx1
        refine hK.out _ _ ?_ (fun hHeld => ?_)
        · trivial
        clear hK Kc
        refine step_read 4 45 rfl rfl (by kernel_rfl) (by kernel_rfl) (by kernel_rfl) (fun _ _ _ h => h) (by rfl) (v := ?_) (fun w hSw => ?_) (by assumption) ?_; rotate_left; (focus ((try dsimp only at hSw); go_simp; first | done | exact rfl)); simp only [List.set]
        refine wpAnyH_ready (rs := [5]) (by kernel_rfl) (by simp) ?_
        refine AllReadyH.cons rfl (fun Kc hK => ?_) (AllReadyH.nil)
        go_simp
        refine hK.out _ _ ?_ (fun hHeld => ?_)
        · trivial
        clear hK Kc
        refine wpAnyH_ready (rs := [6]) (by kernel_rfl) (by simp) ?_
        refine AllReadyH.cons rfl (fun Kc hK => ?_) (AllReadyH.nil)
        go_simp
        obtain ⟨wB, hwB⟩ : ∃ qq, qq = wD.alloc (.cells #[.int .i64 ea, .int .i64 eb, .int .i64 ec] 96) := ⟨_, rfl⟩
        have HKB : Hid (BdK w lo C a n cp w.heap.size ow M (.slice (some ⟨g, 0, none⟩) (m + 1) gc) L wB) := HKd.out.grow (by rw [hwB]; exact (Below.refl _ _).alloc (Nat.le_refl _) _)
        have hc3 : ∀ j u, [.int .i64 ea, .int .i64 eb, .int .i64 ec][j]? = some u → wB.cell? ((⟨wD.heap.size, 0, none⟩ : Addr).add j) = some u := by rw [hwB]; exact fun j u hj => cell_three_new _ _ _ _ 96 j u hj
        have hBs : wD.heap.size < wB.heap.size := by rw [hwB]; simp
        obtain ⟨bx, hbx⟩ : ∃ qq, qq = wD.heap.size := ⟨_, rfl⟩
        rw [← hbx] at hc3 hBs
        rw [← hwB]
        try rw [← hbx]
        clear hwB hbx y0 y1 y2
        refine hK.out _ _ ?_ (fun hHeld => ?_)
        · trivial
        clear hK Kc
        refine wpAnyH_ready (rs := [7]) (by kernel_rfl) (by simp) ?_
        refine AllReadyH.cons rfl (fun Kc hK => ?_) (AllReadyH.nil)
        have hown := HKB.out.row.owns
        rw [← HmL.out] at hown
        have hgX := (HKB.out.row.block g rfl).2.2.1
        have hord := HKB.out.ord
        refine step_append_lies _ rfl _ _ 27 rfl lo 96 iE (.agg #[.int .i64 0, .int .i64 0, .int .i64 0]) 3 24 Try.underlying27 IE.out.1 IE.out.2.1 IE.out.2.2.1 IE.out.2.2.2 rfl (by decide) _ (m + 1) (ints (flat L)) rfl hown ⟨bx, 0, none⟩ 1 1 [.int .i64 ea, .int .i64 eb, .int .i64 ec] rfl rfl hc3 (three_one _ _ _) (by decide) (by unfold maxLen; omega) (by omega) (by omega) _ rfl ?_
        intro g4 cap4 w4 hown4 hgrow4 hat4 hlt4
        have xx1 : w4.cell? ⟨w.heap.size, 1, none⟩ = some (.slice (some ⟨g, 0, none⟩) (m + 1) gc) := by rw [hgrow4.cell_far ⟨w.heap.size, 1, none⟩ (by show w.heap.size < _; omega) (by intro e; cases e; exact hgX rfl)]; exact HKB.out.x1
        have xxf : w4.frozen? ⟨w.heap.size, 1, none⟩ = false := by rw [hgrow4.frozen_far ⟨w.heap.size, 1, none⟩ (by show w.heap.size < _; omega) (by intro e; cases e; exact hgX rfl)]; exact HKB.out.xf 1
        rw [HmL.out] at hown4
        have HKE := Lib.hid (HKB.out.app (x := ea) (y := eb) (z := ec) (How.out _ rfl) (by have := HmL.out; omega) hown4 hgrow4 hat4)
        rw [← HmL.out] at HKE
        clear hown4 hgrow4 hat4 hlt4 hown hgX hord hc3 hBs
        go_simp
        refine hK.out _ _ ?_ (fun hHeld => ?_)
        · trivial
        clear hK Kc
        refine step_read 8 49 rfl rfl (by kernel_rfl) (by kernel_rfl) (by kernel_rfl) (fun _ _ _ h => h) (by rfl) (v := ?_) (fun w hSw => ?_) (by assumption) ?_; rotate_left; (focus ((try dsimp only at hSw); go_simp; first | done | exact rfl)); simp only [List.set]
        refine wpAnyH_ready (rs := [9]) (by kernel_rfl) (by simp) ?_
        refine AllReadyH.cons rfl (fun Kc hK => ?_) (AllReadyH.nil)
        go_simp
        obtain ⟨wS, hwS⟩ : ∃ qq, qq = w4.setCell ⟨w.heap.size, 1, none⟩ (.slice (some ⟨g4, 0, none⟩) (m + 1 + 1) cap4) := ⟨_, rfl⟩
        rw [← hwS] at HKE ⊢
        clear hwS xx1 xxf
        refine hK.out _ _ ?_ (fun hHeld => ?_)
        · trivial
        clear hK Kc
        refine wpAnyH_done (by kernel_rfl) ?_ _
        have zx0 := HKE.out.x0
        have zx1 := HKE.out.x1
        have zxf0 := HKE.out.xf 0
        have zxf1 := HKE.out.xf 1
        have zr0 := HKE.out.r0
        have zr1 := HKE.out.r1
        have zrf0 := HKE.out.rf 0
        have zrf1 := HKE.out.rf 1
        obtain ⟨s0, s1⟩ := res2 (u := .int .i64 M) (v := .slice (some ⟨g4, 0, none⟩) (m + 1 + 1) cap4) zr0 zr1
        go_wp2_with fail
        exact bodyPost_ret (v := .agg #[.int .i64 M, .slice (some ⟨g4, 0, none⟩) (m + 1 + 1) cap4]) (by simp [results, Try.results105, go_sem, s0, s1]) rfl (HKE.out.done (by have := HmL.out; simp; omega))
      · obtain ⟨wD, hwD⟩ : ∃ qq, qq = w1.drew := ⟨_, rfl⟩
        rw [← hwD] at HKd y0 y1 y2 ⊢
        clear hwD
        have zx1 := HKd.out.x1
        go_simp
        clear zx1
        refine hK.out _ _ ?_ (fun hHeld => ?_)
        · trivial
        clear hK Kc
        refine step_read 4 45 rfl rfl (by kernel_rfl) (by kernel_rfl) (by kernel_rfl) (fun _ _ _ h => h) (by rfl) (v := ?_) (fun w hSw => ?_) (by assumption) ?_; rotate_left; (focus ((try dsimp only at hSw); go_simp; first | done | exact rfl)); simp only [List.set]
        refine wpAnyH_ready (rs := [1, 5]) (by kernel_rfl) (by simp) ?_
        refine AllReadyH.cons rfl (fun Kc hK => ?_) (AllReadyH.cons rfl (fun Kc hK => ?_) (AllReadyH.nil))
        · have zx1 := HKd.out.x1
          go_simp
          clear zx1
          refine hK.out _ _ ?_ (fun hHeld => ?_)
          · trivial
          clear hK Kc
          refine wpAnyH_ready (rs := [5]) (by kernel_rfl) (by simp) ?_
          refine AllReadyH.cons rfl (fun Kc hK => ?_) (AllReadyH.nil)
          go_simp
          refine hK.out _ _ ?_ (fun hHeld => ?_)
          · trivial
          clear hK Kc
          refine wpAnyH_ready (rs := [6]) (by kernel_rfl) (by simp) ?_
          refine AllReadyH.cons rfl (fun Kc hK => ?_) (AllReadyH.nil)
          go_simp
          obtain ⟨wB, hwB⟩ : ∃ qq, qq = wD.alloc (.cells #[.int .i64 ea, .int .i64 eb, .int .i64 ec] 96) := ⟨_, rfl⟩
          have HKB : Hid (BdK w lo C a n cp w.heap.size ow M (.slice (some ⟨g, 0, none⟩) (m + 1) gc) L wB) := HKd.out.grow (by rw [hwB]; exact (Below.refl _ _).alloc (Nat.le_refl _) _)
          have hc3 : ∀ j u, [.int .i64 ea, .int .i64 eb, .int .i64 ec][j]? = some u → wB.cell? ((⟨wD.heap.size, 0, none⟩ : Addr).add j) = some u := by rw [hwB]; exact fun j u hj => cell_three_new _ _ _ _ 96 j u hj
          have hBs : wD.heap.size < wB.heap.size := by rw [hwB]; simp
          obtain ⟨bx, hbx⟩ : ∃ qq, qq = wD.heap.size := ⟨_, rfl⟩
          rw [← hbx] at hc3 hBs
          rw [← hwB]
          try rw [← hbx]
          clear hwB hbx y0 y1 y2
          refine hK.out _ _ ?_ (fun hHeld => ?_)
          · trivial
          clear hK Kc
          refine wpAnyH_ready (rs := [7]) (by kernel_rfl) (by simp) ?_
          refine AllReadyH.cons rfl (fun Kc hK => ?_) (AllReadyH.nil)
          have hown := HKB.out.row.owns
          rw [← HmL.out] at hown
          have hgX := (HKB.out.row.block g rfl).2.2.1
          have hord := HKB.out.ord
          refine step_append_lies _ rfl _ _ 27 rfl lo 96 iE (.agg #[.int .i64 0, .int .i64 0, .int .i64 0]) 3 24 Try.underlying27 IE.out.1 IE.out.2.1 IE.out.2.2.1 IE.out.2.2.2 rfl (by decide) _ (m + 1) (ints (flat L)) rfl hown ⟨bx, 0, none⟩ 1 1 [.int .i64 ea, .int .i64 eb, .int .i64 ec] rfl rfl hc3 (three_one _ _ _) (by decide) (by unfold maxLen; omega) (by omega) (by omega) _ rfl ?_
          intro g4 cap4 w4 hown4 hgrow4 hat4 hlt4
          have xx1 : w4.cell? ⟨w.heap.size, 1, none⟩ = some (.slice (some ⟨g, 0, none⟩) (m + 1) gc) := by rw [hgrow4.cell_far ⟨w.heap.size, 1, none⟩ (by show w.heap.size < _; omega) (by intro e; cases e; exact hgX rfl)]; exact HKB.out.x1
          have xxf : w4.frozen? ⟨w.heap.size, 1, none⟩ = false := by rw [hgrow4.frozen_far ⟨w.heap.size, 1, none⟩ (by show w.heap.size < _; omega) (by intro e; cases e; exact hgX rfl)]; exact HKB.out.xf 1
          rw [HmL.out] at hown4
          have HKE := Lib.hid (HKB.out.app (x := ea) (y := eb) (z := ec) (How.out _ rfl) (by have := HmL.out; omega) hown4 hgrow4 hat4)
          rw [← HmL.out] at HKE
          clear hown4 hgrow4 hat4 hlt4 hown hgX hord hc3 hBs
          go_simp
          refine hK.out _ _ ?_ (fun hHeld => ?_)
          · trivial
          clear hK Kc
          refine step_read 8 49 rfl rfl (by kernel_rfl) (by kernel_rfl) (by kernel_rfl) (fun _ _ _ h => h) (by rfl) (v := ?_) (fun w hSw => ?_) (by assumption) ?_; rotate_left; (focus ((try dsimp only at hSw); go_simp; first | done | exact rfl)); simp only [List.set]
          refine wpAnyH_ready (rs := [9]) (by kernel_rfl) (by simp) ?_
          refine AllReadyH.cons rfl (fun Kc hK => ?_) (AllReadyH.nil)
          go_simp
          obtain ⟨wS, hwS⟩ : ∃ qq, qq = w4.setCell ⟨w.heap.size, 1, none⟩ (.slice (some ⟨g4, 0, none⟩) (m + 1 + 1) cap4) := ⟨_, rfl⟩
          rw [← hwS] at HKE ⊢
          clear hwS xx1 xxf
          refine hK.out _ _ ?_ (fun hHeld => ?_)
          · trivial
          clear hK Kc
          refine wpAnyH_done (by kernel_rfl) ?_ _
          have zx0 := HKE.out.x0
          have zx1 := HKE.out.x1
          have zxf0 := HKE.out.xf 0
          have zxf1 := HKE.out.xf 1
          have zr0 := HKE.out.r0
          have zr1 := HKE.out.r1
          have zrf0 := HKE.out.rf 0
          have zrf1 := HKE.out.rf 1
          obtain ⟨s0, s1⟩ := res2 (u := .int .i64 M) (v := .slice (some ⟨g4, 0, none⟩) (m + 1 + 1) cap4) zr0 zr1
          go_wp2_with fail
          exact bodyPost_ret (v := .agg #[.int .i64 M, .slice (some ⟨g4, 0, none⟩) (m + 1 + 1) cap4]) (by simp [results, Try.results105, go_sem, s0, s1]) rfl (HKE.out.done (by have := HmL.out; simp; omega))
        · go_simp
          refine hK.out _ _ ?_ (fun hHeld => ?_)
          · trivial
          clear hK Kc
          refine wpAnyH_ready (rs := [1, 6]) (by kernel_rfl) (by simp) ?_
          refine AllReadyH.cons rfl (fun Kc hK => ?_) (AllReadyH.cons rfl (fun Kc hK => ?_) (AllReadyH.nil))
          · have zx1 := HKd.out.x1
            go_simp
            clear zx1
            refine hK.out _ _ ?_ (fun hHeld => ?_)
            · trivial
            clear hK Kc
            refine wpAnyH_ready (rs := [6]) (by kernel_rfl) (by simp) ?_
            refine AllReadyH.cons rfl (fun Kc hK => ?_) (AllReadyH.nil)
            go_simp
            obtain ⟨wB, hwB⟩ : ∃ qq, qq = wD.alloc (.cells #[.int .i64 ea, .int .i64 eb, .int .i64 ec] 96) := ⟨_, rfl⟩
            have HKB : Hid (BdK w lo C a n cp w.heap.size ow M (.slice (some ⟨g, 0, none⟩) (m + 1) gc) L wB) := HKd.out.grow (by rw [hwB]; exact (Below.refl _ _).alloc (Nat.le_refl _) _)
            have hc3 : ∀ j u, [.int .i64 ea, .int .i64 eb, .int .i64 ec][j]? = some u → wB.cell? ((⟨wD.heap.size, 0, none⟩ : Addr).add j) = some u := by rw [hwB]; exact fun j u hj => cell_three_new _ _ _ _ 96 j u hj
            have hBs : wD.heap.size < wB.heap.size := by rw [hwB]; simp
            obtain ⟨bx, hbx⟩ : ∃ qq, qq = wD.heap.size := ⟨_, rfl⟩
            rw [← hbx] at hc3 hBs
            rw [← hwB]
            try rw [← hbx]
            clear hwB hbx y0 y1 y2
            refine hK.out _ _ ?_ (fun hHeld => ?_)
            · trivial
            clear hK Kc
            refine wpAnyH_ready (rs := [7]) (by kernel_rfl) (by simp) ?_
            refine AllReadyH.cons rfl (fun Kc hK => ?_) (AllReadyH.nil)
            have hown := HKB.out.row.owns
            rw [← HmL.out] at hown
            have hgX := (HKB.out.row.block g rfl).2.2.1
            have hord := HKB.out.ord
            refine step_append_lies _ rfl _ _ 27 rfl lo 96 iE (.agg #[.int .i64 0, .int .i64 0, .int .i64 0]) 3 24 Try.underlying27 IE.out.1 IE.out.2.1 IE.out.2.2.1 IE.out.2.2.2 rfl (by decide) _ (m + 1) (ints (flat L)) rfl hown ⟨bx, 0, none⟩ 1 1 [.int .i64 ea, .int .i64 eb, .int .i64 ec] rfl rfl hc3 (three_one _ _ _) (by decide) (by unfold maxLen; omega) (by omega) (by omega) _ rfl ?_
            intro g4 cap4 w4 hown4 hgrow4 hat4 hlt4
            have xx1 : w4.cell? ⟨w.heap.size, 1, none⟩ = some (.slice (some ⟨g, 0, none⟩) (m + 1) gc) := by rw [hgrow4.cell_far ⟨w.heap.size, 1, none⟩ (by show w.heap.size < _; omega) (by intro e; cases e; exact hgX rfl)]; exact HKB.out.x1
            have xxf : w4.frozen? ⟨w.heap.size, 1, none⟩ = false := by rw [hgrow4.frozen_far ⟨w.heap.size, 1, none⟩ (by show w.heap.size < _; omega) (by intro e; cases e; exact hgX rfl)]; exact HKB.out.xf 1
            rw [HmL.out] at hown4
            have HKE := Lib.hid (HKB.out.app (x := ea) (y := eb) (z := ec) (How.out _ rfl) (by have := HmL.out; omega) hown4 hgrow4 hat4)
            rw [← HmL.out] at HKE
            clear hown4 hgrow4 hat4 hlt4 hown hgX hord hc3 hBs
            go_simp
            refine hK.out _ _ ?_ (fun hHeld => ?_)
            · trivial
            clear hK Kc
            refine step_read 8 49 rfl rfl (by kernel_rfl) (by kernel_rfl) (by kernel_rfl) (fun _ _ _ h => h) (by rfl) (v := ?_) (fun w hSw => ?_) (by assumption) ?_; rotate_left; (focus ((try dsimp only at hSw); go_simp; first | done | exact rfl)); simp only [List.set]
            refine wpAnyH_ready (rs := [9]) (by kernel_rfl) (by simp) ?_
            refine AllReadyH.cons rfl (fun Kc hK => ?_) (AllReadyH.nil)
            go_simp
            obtain ⟨wS, hwS⟩ : ∃ qq, qq = w4.setCell ⟨w.heap.size, 1, none⟩ (.slice (some ⟨g4, 0, none⟩) (m + 1 + 1) cap4) := ⟨_, rfl⟩
            rw [← hwS] at HKE ⊢
            clear hwS xx1 xxf
            refine hK.out _ _ ?_ (fun hHeld => ?_)
            · trivial
            clear hK Kc
            refine wpAnyH_done (by kernel_rfl) ?_ _
            have zx0 := HKE.out.x0
            have zx1 := HKE.out.x1
            have zxf0 := HKE.out.xf 0
            have zxf1 := HKE.out.xf 1
            have zr0 := HKE.out.r0
            have zr1 := HKE.out.r1
            have zrf0 := HKE.out.rf 0
            have zrf1 := HKE.out.rf 1
            obtain ⟨s0, s1⟩ := res2 (u := .int .i64 M) (v := .slice (some ⟨g4, 0, none⟩) (m + 1 + 1) cap4) zr0 zr1
            go_wp2_with fail
            exact bodyPost_ret (v := .agg #[.int .i64 M, .slice (some ⟨g4, 0, none⟩) (m + 1 + 1) cap4]) (by simp [results, Try.results105, go_sem, s0, s1]) rfl (HKE.out.done (by have := HmL.out; simp; omega))
          · go_simp
            obtain ⟨wB, hwB⟩ : ∃ qq, qq = wD.alloc (.cells #[.int .i64 ea, .int .i64 eb, .int .i64 ec] 96) := ⟨_, rfl⟩
            have HKB : Hid (BdK w lo C a n cp w.heap.size ow M (.slice (some ⟨g, 0, none⟩) (m + 1) gc) L wB) := HKd.out.grow (by rw [hwB]; exact (Below.refl _ _).alloc (Nat.le_refl _) _)
            have hc3 : ∀ j u, [.int .i64 ea, .int .i64 eb, .int .i64 ec][j]? = some u → wB.cell? ((⟨wD.heap.size, 0, none⟩ : Addr).add j) = some u := by rw [hwB]; exact fun j u hj => cell_three_new _ _ _ _ 96 j u hj
            have hBs : wD.heap.size < wB.heap.size := by rw [hwB]; simp
            obtain ⟨bx, hbx⟩ : ∃ qq, qq = wD.heap.size := ⟨_, rfl⟩
            rw [← hbx] at hc3 hBs
            rw [← hwB]
            try rw [← hbx]
            clear hwB hbx y0 y1 y2
            refine hK.out _ _ ?_ (fun hHeld => ?_)
            · trivial
            clear hK Kc
            refine wpAnyH_ready (rs := [1]) (by kernel_rfl) (by simp) ?_
            refine AllReadyH.cons rfl (fun Kc hK => ?_) (AllReadyH.nil)
            have zx1 := HKB.out.x1
            go_simp
            clear zx1
            refine hK.out _ _ ?_ (fun hHeld => ?_)
            · trivial
            clear hK Kc
            refine wpAnyH_ready (rs := [7]) (by kernel_rfl) (by simp) ?_
            refine AllReadyH.cons rfl (fun Kc hK => ?_) (AllReadyH.nil)
            have hown := HKB.out.row.owns
            rw [← HmL.out] at hown
            have hgX := (HKB.out.row.block g rfl).2.2.1
            have hord := HKB.out.ord
            refine step_append_lies _ rfl _ _ 27 rfl lo 96 iE (.agg #[.int .i64 0, .int .i64 0, .int .i64 0]) 3 24 Try.underlying27 IE.out.1 IE.out.2.1 IE.out.2.2.1 IE.out.2.2.2 rfl (by decide) _ (m + 1) (ints (flat L)) rfl hown ⟨bx, 0, none⟩ 1 1 [.int .i64 ea, .int .i64 eb, .int .i64 ec] rfl rfl hc3 (three_one _ _ _) (by decide) (by unfold maxLen; omega) (by omega) (by omega) _ rfl ?_
            intro g4 cap4 w4 hown4 hgrow4 hat4 hlt4
            have xx1 : w4.cell? ⟨w.heap.size, 1, none⟩ = some (.slice (some ⟨g, 0, none⟩) (m + 1) gc) := by rw [hgrow4.cell_far ⟨w.heap.size, 1, none⟩ (by show w.heap.size < _; omega) (by intro e; cases e; exact hgX rfl)]; exact HKB.out.x1
            have xxf : w4.frozen? ⟨w.heap.size, 1, none⟩ = false := by rw [hgrow4.frozen_far ⟨w.heap.size, 1, none⟩ (by show w.heap.size < _; omega) (by intro e; cases e; exact hgX rfl)]; exact HKB.out.xf 1
            rw [HmL.out] at hown4
            have HKE := Lib.hid (HKB.out.app (x := ea) (y := eb) (z := ec) (How.out _ rfl) (by have := HmL.out; omega) hown4 hgrow4 hat4)
            rw [← HmL.out] at HKE
            clear hown4 hgrow4 hat4 hlt4 hown hgX hord hc3 hBs
            go_simp
            refine hK.out _ _ ?_ (fun hHeld => ?_)
            · trivial
            clear hK Kc
            refine step_read 8 49 rfl rfl (by kernel_rfl) (by kernel_rfl) (by kernel_rfl) (fun _ _ _ h => h) (by rfl) (v := ?_) (fun w hSw => ?_) (by assumption) ?_; rotate_left; (focus ((try dsimp only at hSw); go_simp; first | done | exact rfl)); simp only [List.set]
            refine wpAnyH_ready (rs := [9]) (by kernel_rfl) (by simp) ?_
            refine AllReadyH.cons rfl (fun Kc hK => ?_) (AllReadyH.nil)
            go_simp
            obtain ⟨wS, hwS⟩ : ∃ qq, qq = w4.setCell ⟨w.heap.size, 1, none⟩ (.slice (some ⟨g4, 0, none⟩) (m + 1 + 1) cap4) := ⟨_, rfl⟩
            rw [← hwS] at HKE ⊢
            clear hwS xx1 xxf
            refine hK.out _ _ ?_ (fun hHeld => ?_)
            · trivial
            clear hK Kc
            refine wpAnyH_done (by kernel_rfl) ?_ _
            have zx0 := HKE.out.x0
            have zx1 := HKE.out.x1
            have zxf0 := HKE.out.xf 0
            have zxf1 := HKE.out.xf 1
            have zr0 := HKE.out.r0
            have zr1 := HKE.out.r1
            have zrf0 := HKE.out.rf 0
            have zrf1 := HKE.out.rf 1
            obtain ⟨s0, s1⟩ := res2 (u := .int .i64 M) (v := .slice (some ⟨g4, 0, none⟩) (m + 1 + 1) cap4) zr0 zr1
            go_wp2_with fail
            exact bodyPost_ret (v := .agg #[.int .i64 M, .slice (some ⟨g4, 0, none⟩) (m + 1 + 1) cap4]) (by simp [results, Try.results105, go_sem, s0, s1]) rfl (HKE.out.done (by have := HmL.out; simp; omega))
  · rcases m with _ | m
    · have zx0 := HK1.out.x0
      have zx1 := HK1.out.x1
      have zxf0 := HK1.out.xf 0
      have zxf1 := HK1.out.xf 1
      have zr0 := HK1.out.r0
      have zr1 := HK1.out.r1
      have zrf0 := HK1.out.rf 0
      have zrf1 := HK1.out.rf 1
      obtain ⟨s0, s1⟩ := res2 (u := .int .i64 M) (v := .slice ga 0 gc) zr0 zr1
      go_wp2_with fail
      exact bodyPost_ret (v := .agg #[.int .i64 M, .slice ga 0 gc]) (by simp [results, Try.results105, go_sem, s0, s1]) rfl (HK1.out.done (by rw [← Hm.out]; omega))
    · have yx1 := HK1.out.x1
      obtain ⟨ci2, hc2⟩ := HK1.out.cur
      have g1 : (0 : Int) < (m : Int) + 1 := by omega
      go_wp2_with fail
      go_at_call 82
      refine (below_any C a n cp ci2 ((m : Int) + 1) _ hc2 (by omega)).mono ?_
      rintro e w3 ⟨⟨v, rfl, v0, v1, v2⟩, k3, he3⟩
      clear hc2 yx1
      have HK3 : Hid (BdK w lo C a n cp w.heap.size ow M (.slice ga (m + 1) gc) L w3) := HK1.out.else_ he3 k3
      have hv := v1 (by omega)
      obtain ⟨j, rfl⟩ : ∃ j : Nat, v = (j : Int) := ⟨v.toNat, by omega⟩
      clear he3 k3 v1 v2 HK1
      have hrow := HK3.out.row
      rcases hrow with ⟨e1, _⟩ | ⟨g, c, e1, hro, hg1, hg2, hg3, hg4⟩
      · cases e1
      have hmL := Hm.out
      rw [← hmL] at e1
      cases e1
      obtain ⟨r, hr⟩ : ∃ r, L[j]? = some r := ⟨L[j]'(by omega), List.getElem?_eq_getElem _⟩
      obtain ⟨ea, eb, ec⟩ := r
      obtain ⟨r0, r1, r2⟩ := flat_at L j _ hr
      have hown := hro.own
      rw [← hmL] at hown
      have y0 : w3.cell? ⟨g, j * 3, none⟩ = some (.int .i64 ea) := by rw [hown.cellAt _ (by omega), ints_at' r0]
      have y1 : w3.cell? ⟨g, j * 3 + 1, none⟩ = some (.int .i64 eb) := by rw [hown.cellAt _ (by omega), ints_at' r1]
      have y2 : w3.cell? ⟨g, j * 3 + 2, none⟩ = some (.int .i64 ec) := by rw [hown.cellAt _ (by omega), ints_at' r2]
      have yz0 := HK3.out.x0
      have yz1 := HK3.out.x1
      have yxf0 := HK3.out.xf 0
      have yxf1 := HK3.out.xf 1
      have yr0 := HK3.out.r0
      have yr1 := HK3.out.r1
      have yrf0 := HK3.out.rf 0
      have yrf1 := HK3.out.rf 1
      have fz := hown.frozenAt (j * 3 + 1)
      have q1 : (j : Int) < (m : Int) + 1 := by omega
      have hsL := flat_set L j 1 ea (by omega) (by omega)
      obtain ⟨L', hL1, hL2⟩ := hsL
      have HK4 := Lib.hid (HK3.out.cell (z := ea) (L' := L') (How.out _ rfl) hmL (show j * 3 + 1 < (m + 1) * 3 by omega) hL1 hL2)
      clear r0 r1 r2 hr hown hro hL1
      go_wp2_with fail
      go_region
      have HK5 := Lib.hid (HK4.out.grow (w2 := (w3.setCell ⟨g, j * 3 + 1, none⟩ (.int .i64 ea)).drew) ((Below.refl _ _).drew))
      obtain ⟨w5, hw5⟩ : ∃ qq, qq = (w3.setCell ⟨g, j * 3 + 1, none⟩ (.int .i64 ea)).drew := ⟨_, rfl⟩
      rw [← hw5] at HK5 ⊢
      rw [hmL] at HK5
      clear hw5 HK4 HK3 yz0 yz1 yxf0 yxf1 yr0 yr1 yrf0 yrf1 y0 y1 y2 fz
      have zx0 := HK5.out.x0
      have zx1 := HK5.out.x1
      have zxf0 := HK5.out.xf 0
      have zxf1 := HK5.out.xf 1
      have zr0 := HK5.out.r0
      have zr1 := HK5.out.r1
      have zrf0 := HK5.out.rf 0
      have zrf1 := HK5.out.rf 1
      obtain ⟨s0, s1⟩ := res2 (u := .int .i64 M) (v := .slice (some ⟨g, 0, none⟩) L.length gc) zr0 zr1
      go_wp2_with fail
      exact bodyPost_ret (v := .agg #[.int .i64 M, .slice (some ⟨g, 0, none⟩) L.length gc]) (by simp [results, Try.results105, go_sem, s0, s1]) rfl (HK5.out.done (by rw [hL2, ← hmL]; omega))

theorem BytesAt.alloc {w : World} {a : Option Addr} {n : Nat} (h : BytesAt w a n) (o : Obj) : BytesAt (w.alloc o) a n :=
  ⟨h.1, fun h0 => by
    obtain ⟨b, off, e, h1, h2⟩ := h.2 h0
    exact ⟨b, off, e, by simp; omega, fun q hq => by
      obtain ⟨z, h3, h4⟩ := h2 q hq
      exact ⟨z, by rw [old_box h1]; exact h3, h4⟩⟩⟩
/-- What holds while a graph is drawn: C the cursor, X the graph's cell, w.heap.size the result's. -/
structure DwK (w : World) (C : Nat) (a : Option Addr) (n cp X : Nat) (M : Int) (gv : Value) (L : List Ed) (wr : World) : Prop where
  cur : ∃ i, Cur wr C a n cp i
  bl : Below w.heap.size w wr
  ord : w.heap.size < C ∧ C < X ∧ X < wr.heap.size
  r0 : wr.cell? ⟨w.heap.size, 0, none⟩ = some (.int .i64 0)
  r1 : wr.cell? ⟨w.heap.size, 1, none⟩ = some (.slice none 0 0)
  rf : ∀ o, wr.frozen? ⟨w.heap.size, o, none⟩ = false
  x0 : wr.cell? ⟨X, 0, none⟩ = some (.int .i64 M)
  x1 : wr.cell? ⟨X, 1, none⟩ = some gv
  xf : ∀ o, wr.frozen? ⟨X, o, none⟩ = false
  row : (gv = .slice none 0 0 ∧ L = []) ∨ ∃ g c, gv = .slice (some ⟨g, 0, none⟩) L.length c ∧ RowO wr g (g + 1) gv L ∧ C < g ∧ g < wr.heap.size ∧ g ≠ X
theorem rowO_split {w : World} {lo C X : Nat} {gv : Value} {L : List Ed} (h : RowO w lo w.heap.size gv L) (hC : C < lo) (hX : ∀ k, gv.ownBlock = some k → k ≠ X) : (gv = .slice none 0 0 ∧ L = []) ∨ ∃ g c, gv = .slice (some ⟨g, 0, none⟩) L.length c ∧ RowO w g (g + 1) gv L ∧ C < g ∧ g < w.heap.size ∧ g ≠ X := by
  have h0 := h
  rcases h.own.2 with ⟨e, h1⟩ | ⟨g, c, cur, e, _⟩
  · exact .inl ⟨e, List.eq_nil_of_length_eq_zero h1⟩
  · subst e
    obtain ⟨h1, h2, h3⟩ := h0.narrow
    exact .inr ⟨g, c, rfl, h1, by omega, h3, hX g rfl⟩
section
variable {w wr w2 : World} {C n cp X : Nat} {a : Option Addr} {M : Int} {gv : Value} {L : List Ed}
theorem DwK.else_ (h : DwK w C a n cp X M gv L wr) (he : Else C wr w2) (hc : ∃ i, Cur w2 C a n cp i) : DwK w C a n cp X M gv L w2 := by
  have o := h.ord
  have bk : ∀ b, b < wr.heap.size → b ≠ C → w2.heap[b]? = wr.heap[b]? := he.2.2.2.2
  have hs := he.2.2.2.1
  have hbs := h.bl.size
  have cc : ∀ b o', b < wr.heap.size → b ≠ C → w2.cell? ⟨b, o', none⟩ = wr.cell? ⟨b, o', none⟩ := fun b o' h1 h2 => World.cell?_of_block (w := wr) (a := ⟨b, o', none⟩) (bk b h1 h2)
  have ff : ∀ b o', b < wr.heap.size → b ≠ C → w2.frozen? ⟨b, o', none⟩ = wr.frozen? ⟨b, o', none⟩ := fun b o' h1 h2 => World.frozen?_of_block (w := wr) (a := ⟨b, o', none⟩) (bk b h1 h2)
  refine ⟨hc, ⟨he.1.trans h.bl.os, he.2.1.trans h.bl.tape, he.2.2.1.trans h.bl.output, by omega, fun b hb => (bk b (by omega) (by omega)).trans (h.bl.block b hb)⟩, ⟨o.1, o.2.1, by omega⟩, by rw [cc _ _ (by omega) (by omega)]; exact h.r0, by rw [cc _ _ (by omega) (by omega)]; exact h.r1, fun o' => by rw [ff _ _ (by omega) (by omega)]; exact h.rf o', by rw [cc _ _ (by omega) (by omega)]; exact h.x0, by rw [cc _ _ (by omega) (by omega)]; exact h.x1, fun o' => by rw [ff _ _ (by omega) (by omega)]; exact h.xf o', ?_⟩
  rcases h.row with h1 | ⟨g, c, e, h1, h2, h3, h4⟩
  · exact .inl h1
  · exact .inr ⟨g, c, e, h1.else_ he (by omega) (.inr (by omega)), h2, by omega, h4⟩
theorem DwK.put {M' : Int} {gv' : Value} {L' : List Ed} {lo : Nat} (h : DwK w C a n cp X M gv L wr) (old : ∀ p : Addr, a = some p → p.block < w.heap.size) (hc : ∃ i, Cur w2 C a n cp i) (hos : w2.os = wr.os ∧ w2.tape = wr.tape ∧ w2.output = wr.output ∧ wr.heap.size ≤ w2.heap.size) (hk : ∀ b, b < wr.heap.size → b ≠ C → gv.ownBlock ≠ some b → w2.heap[b]? = wr.heap[b]?)
    (hr : RowO w2 lo w2.heap.size gv' L') (hlo : C < lo) (hX : ∀ k, gv'.ownBlock = some k → k ≠ X) : DwK w C a n cp X M' gv' L' ((w2.setCell ⟨X, 0, none⟩ (.int .i64 M')).setCell ⟨X, 1, none⟩ gv') := by
  have o := h.ord
  have hbs := h.bl.size
  have hs := hos.2.2.2
  have hown : ∀ b, gv.ownBlock = some b → C < b ∧ b ≠ X := by
    intro b hb
    rcases h.row with ⟨e, _⟩ | ⟨g, c, e, _, h2, _, h4⟩
    · subst e; cases hb
    · subst e; cases hb; exact ⟨h2, h4⟩
  have kR : w2.heap[w.heap.size]? = wr.heap[w.heap.size]? := hk _ (by omega) (by omega) (fun e => by have := (hown _ e).1; omega)
  have kX : w2.heap[X]? = wr.heap[X]? := hk _ (by omega) (by omega) (fun e => (hown _ e).2 rfl)
  have kB : ∀ b, b < w.heap.size → w2.heap[b]? = w.heap[b]? := fun b hb => (hk b (by omega) (by omega) (fun e => by have := (hown _ e).1; omega)).trans (h.bl.block b hb)
  have x0 : w2.cell? ⟨X, 0, none⟩ = some (.int .i64 M) := (World.cell?_of_block (w := wr) (a := ⟨X, 0, none⟩) kX).trans h.x0
  have x1 : w2.cell? ⟨X, 1, none⟩ = some gv := (World.cell?_of_block (w := wr) (a := ⟨X, 1, none⟩) kX).trans h.x1
  have hb2 : ∀ b, b ≠ X → ((w2.setCell ⟨X, 0, none⟩ (.int .i64 M')).setCell ⟨X, 1, none⟩ gv').heap[b]? = w2.heap[b]? := fun b hb => by
    rw [Below.heap_setCell _ _ _ _ (show b ≠ X from hb), Below.heap_setCell _ _ _ _ (show b ≠ X from hb)]
  have sz : ((w2.setCell ⟨X, 0, none⟩ (.int .i64 M')).setCell ⟨X, 1, none⟩ gv').heap.size = w2.heap.size := by simp [World.setCell]
  obtain ⟨i, hc⟩ := hc
  refine ⟨⟨i, (hc.above (lo := C + 1) (fun p e => by have := old p e; omega) (Nat.lt_succ_self _) o.2.1).above (lo := C + 1) (fun p e => by have := old p e; omega) (Nat.lt_succ_self _) o.2.1⟩,
    ⟨hos.1.trans h.bl.os, hos.2.1.trans h.bl.tape, hos.2.2.1.trans h.bl.output, by rw [sz]; omega, fun b hb => (hb2 b (by omega)).trans (kB b hb)⟩, ⟨o.1, o.2.1, by rw [sz]; omega⟩,
    ((World.cell?_of_block (w := w2) (a := ⟨w.heap.size, 0, none⟩) (hb2 w.heap.size (by omega))).trans (World.cell?_of_block (w := wr) (a := ⟨w.heap.size, 0, none⟩) kR)).trans h.r0,
    ((World.cell?_of_block (w := w2) (a := ⟨w.heap.size, 1, none⟩) (hb2 w.heap.size (by omega))).trans (World.cell?_of_block (w := wr) (a := ⟨w.heap.size, 1, none⟩) kR)).trans h.r1,
    fun o' => ((World.frozen?_of_block (w := w2) (a := ⟨w.heap.size, o', none⟩) (hb2 w.heap.size (by omega))).trans (World.frozen?_of_block (w := wr) (a := ⟨w.heap.size, o', none⟩) kR)).trans (h.rf o'),
    by rw [World.cell?_setCell_other _ _ _ _ (by simp)]; exact World.cell?_setCell_same _ _ _ x0, World.cell?_setCell_same _ _ _ (by rw [World.cell?_setCell_other _ _ _ _ (by simp)]; exact x1),
    fun o' => by rw [World.frozen?_setCell, World.frozen?_setCell, World.frozen?_of_block (w := wr) (a := ⟨X, o', none⟩) kX]; exact h.xf o', ?_⟩
  rcases rowO_split hr hlo hX with e | ⟨g, c, e, h1, h2, h3, h4⟩
  · exact .inl e
  · exact .inr ⟨g, c, e, (h1.setCell (p := ⟨X, 0, none⟩) (by show X < g ∨ g + 1 ≤ X; omega) _).setCell (p := ⟨X, 1, none⟩) (by show X < g ∨ g + 1 ≤ X; omega) _, h2, by rw [sz]; exact h3, h4⟩
end
theorem DwK.ro {w wr : World} {C n cp X : Nat} {a : Option Addr} {M : Int} {gv : Value} {L : List Ed} (h : DwK w C a n cp X M gv L wr) : RowO wr (C + 1) wr.heap.size gv L := by
  rcases h.row with ⟨e, e2⟩ | ⟨g, c, e, h1, h2, h3, _⟩
  · subst e; subst e2; exact RowO.empty _ _ _
  · exact h1.wide (by omega) (by omega)
theorem DwK.own {w wr : World} {C n cp X : Nat} {a : Option Addr} {M : Int} {gv : Value} {L : List Ed} (h : DwK w C a n cp X M gv L wr) : ∀ k, gv.ownBlock = some k → k ≠ X := by
  rcases h.row with ⟨e, _⟩ | ⟨g, c, e, _, _, _, h4⟩
  · intro k hk; subst e; cases hk
  · intro k hk; subst e; cases hk; exact h4
theorem DwK.keepX {w wr w2 : World} {C n cp X : Nat} {a : Option Addr} {M : Int} {gv : Value} {L : List Ed} (h : DwK w C a n cp X M gv L wr) (hk : ∀ b, b < wr.heap.size → b ≠ C → gv.ownBlock ≠ some b → w2.heap[b]? = wr.heap[b]?) : w2.cell? ⟨X, 0, none⟩ = some (.int .i64 M) ∧ w2.cell? ⟨X, 1, none⟩ = some gv ∧ ∀ o, w2.frozen? ⟨X, o, none⟩ = false := by
  have o := h.ord
  have kX : w2.heap[X]? = wr.heap[X]? := hk _ (by omega) (by omega) (fun e => h.own _ e rfl)
  exact ⟨(World.cell?_of_block (w := wr) (a := ⟨X, 0, none⟩) kX).trans h.x0, (World.cell?_of_block (w := wr) (a := ⟨X, 1, none⟩) kX).trans h.x1, fun o' => (World.frozen?_of_block (w := wr) (a := ⟨X, o', none⟩) kX).trans (h.xf o')⟩
theorem Cur.other {wr : World} {C n cp i E j : Nat} {a : Option Addr} {u : Value} (hc : Cur wr C a n cp i) (old : ∀ p : Addr, a = some p → p.block ≠ E) (hE : C ≠ E) : Cur (wr.setCell ⟨E, j, none⟩ u) C a n cp i := by
  have bk : ∀ b, b ≠ E → (wr.setCell ⟨E, j, none⟩ u).heap[b]? = wr.heap[b]? := fun b hb => Below.heap_setCell _ _ _ _ hb
  have sz : (wr.setCell ⟨E, j, none⟩ u).heap.size = wr.heap.size := by simp [World.setCell]
  obtain ⟨q, hq⟩ := hc.c2
  have cc : ∀ b o', b ≠ E → (wr.setCell ⟨E, j, none⟩ u).cell? ⟨b, o', none⟩ = wr.cell? ⟨b, o', none⟩ := fun b o' hb => World.cell?_of_block (w := wr) (a := ⟨b, o', none⟩) (bk b hb)
  refine ⟨by rw [cc C _ hE]; exact hc.c0, by rw [cc C _ hE]; exact hc.c1, ⟨q, by rw [cc C _ hE]; exact hq⟩, fun o' => by rw [World.frozen?_of_block (w := wr) (a := ⟨C, o', none⟩) (bk C hE)]; exact hc.frz o', by rw [sz]; exact hc.lt, hc.le, fun hn => ?_⟩
  obtain ⟨b, off, e1, e2, e3, e4⟩ := hc.bytes hn
  have hb : b ≠ E := old _ e1
  refine ⟨b, off, e1, by rw [sz]; exact e2, e3, fun x hx => ?_⟩
  obtain ⟨z, h5, h6⟩ := e4 x hx
  exact ⟨z, by rw [cc b _ hb]; exact h5, h6⟩
/-- What a draw of a graph comes to. -/
def DwPost (w : World) (a : Option Addr) (n cp : Nat) (e : Ending) (w' : World) : Prop := ∃ C M gv L, e = .returned (.tuple #[.pointer (some ⟨C, 0, none⟩), .agg #[.int .i64 M, gv]]) ∧ (∃ i, Cur w' C a n cp i) ∧ w.heap.size ≤ C ∧ Row 3 w' (C + 1) w'.heap.size gv L.length (flat L) ∧ L.length ≤ 61 ∧ Below w.heap.size w w'
theorem DwPost.drew {w w' : World} {a : Option Addr} {n cp : Nat} {e : Ending} (h : DwPost w a n cp e w') : DwPost w a n cp e w'.drew := by
  obtain ⟨C, M, gv, L, e1, ⟨i, hc⟩, h2, h3, h4, h5⟩ := h
  exact ⟨C, M, gv, L, e1, ⟨i, hc.below ((Below.refl _ _).drew)⟩, h2, h3.below (B := w'.heap.size) ((Below.refl _ _).drew) (Nat.le_refl _), h4, h5.drew⟩
theorem DwK.done {w wr : World} {C n cp X : Nat} {a : Option Addr} {M : Int} {gv : Value} {L : List Ed} (h : DwK w C a n cp X M gv L wr) (old : ∀ p : Addr, a = some p → p.block < w.heap.size) (hl : L.length ≤ 61) : DwPost w a n cp (.returned (.tuple #[.pointer (some ⟨C, 0, none⟩), .agg #[.int .i64 M, gv]])) ((wr.setCell ⟨w.heap.size, 0, none⟩ (.int .i64 M)).setCell ⟨w.heap.size, 1, none⟩ gv) := by
  have o := h.ord
  have hbs := h.bl.size
  obtain ⟨i, hc⟩ := h.cur
  have sz : ((wr.setCell ⟨w.heap.size, 0, none⟩ (.int .i64 M)).setCell ⟨w.heap.size, 1, none⟩ gv).heap.size = wr.heap.size := by simp [World.setCell]
  refine ⟨C, M, gv, L, rfl, ⟨i, (hc.other (fun p e => by have := old p e; omega) (by omega)).other (fun p e => by have := old p e; omega) (by omega)⟩, by omega, ?_, hl, ⟨h.bl.os, h.bl.tape, h.bl.output, by rw [sz]; omega, fun b hb => ?_⟩⟩
  · rw [sz]
    rcases h.row with ⟨e, e2⟩ | ⟨g, c, e, h1, h2, h3, _⟩
    · subst e; subst e2; exact (RowO.empty _ _ _).row
    · exact ((h1.setCell (p := ⟨w.heap.size, 0, none⟩) (by show w.heap.size < g ∨ g + 1 ≤ w.heap.size; omega) _).setCell (p := ⟨w.heap.size, 1, none⟩) (by show w.heap.size < g ∨ g + 1 ≤ w.heap.size; omega) _).row.wide (by omega) (by omega)
  · rw [Below.heap_setCell _ _ _ _ (show b ≠ w.heap.size by omega), Below.heap_setCell _ _ _ _ (show b ≠ w.heap.size by omega)]
    exact h.bl.block b hb

set_option maxRecDepth 100000 in
set_option maxHeartbeats 4000000 in
theorem draw_any (a : Option Addr) (n cp : Nat) (w : World) (hb : BytesAt w a n) (hold : ∀ p : Addr, a = some p → p.block < w.heap.size) : Calls Try.prog 79 #[.slice a n cp] w (DwPost w a n cp) := by
  have hn := hb.1
  have HO := Lib.hid hold
  have HB := Lib.hid hb
  clear hb hold
  go_enter Try.func79, Try.ntmps79
  go_wp2_with fail
  obtain ⟨w0, hw0⟩ : ∃ q, q = w.alloc (.cells #[.int .i64 0, .slice none 0 0] 29) := ⟨_, rfl⟩
  have HR0 : Hid (w0.heap.size = w.heap.size + 1 ∧ Below w.heap.size w w0 ∧ BytesAt w0 a n ∧ w0.cell? ⟨w.heap.size, 0, none⟩ = some (.int .i64 0) ∧ w0.cell? ⟨w.heap.size, 1, none⟩ = some (.slice none 0 0) ∧ ∀ o, w0.frozen? ⟨w.heap.size, o, none⟩ = false) :=
    ⟨by rw [hw0]; simp, by rw [hw0]; exact (Below.refl _ _).alloc (Nat.le_refl _) _, by rw [hw0]; exact BytesAt.alloc HB.out _, by rw [hw0]; show _ = _; simp, by rw [hw0]; show _ = _; simp, fun o => by rw [hw0]; show _ = _; simp⟩
  rw [← hw0]
  clear hw0 HB
  go_at_call 102
  refine (new_any a n cp w0 HR0.out.2.2.1).mono ?_
  rintro e w1 ⟨C, rfl, hC0, hc1, hb1⟩
  have hs0 := HR0.out.1
  have hC : w.heap.size < C := by omega
  clear hs0 hC0
  have Hb1 := Lib.hid hb1
  clear hb1
  go_wp2_with fail
  go_at_call 103
  refine (size_any a n cp 9 _ (by omega)).mono ?_
  rintro e w' ⟨⟨x, rfl, x1, x2⟩, rfl⟩
  have hx := x2 (by omega)
  clear x2
  go_wp2_with fail
  go_at_call 82
  refine (below_any C a n cp 0 x _ hc1 (by omega)).mono ?_
  rintro e w2 ⟨⟨y, rfl, y0, y1, _⟩, ⟨i2, hc2⟩, he2⟩
  have hy := y1 (by omega)
  have HE2 := Lib.hid he2
  have e1 : IntKind.i64.wrap (1 + y) = 1 + y := IntWalk.i64_in _ (by omega)
  have e2 : IntKind.i64.wrap (3 * (1 + y)) = 3 * (1 + y) := IntWalk.i64_in _ (by omega)
  have e3 : IntKind.i64.wrap (3 * (1 + y) + 1) = 3 * (1 + y) + 1 := IntWalk.i64_in _ (by omega)
  clear y1 he2 hc1
  go_wp2_with fail
  go_at_call 82
  obtain ⟨M, hM⟩ : ∃ q, q = 1 + y := ⟨_, rfl⟩
  rw [← hM]
  have hM1 : 1 ≤ M ∧ M ≤ 9 := by omega
  clear hM y0 hy hx x1 e1 e2 e3
  refine (below_any C a n cp i2 (3 * M + 1) _ hc2 (by omega)).mono ?_
  rintro e w3 ⟨⟨z, rfl, z0, z1, _⟩, ⟨i3, hc3⟩, he3⟩
  have hz := z1 (by omega)
  have HE3 := Lib.hid (HE2.out.trans he3)
  clear z1 he3 HE2 hc2
  have hw3 : w1.heap.size ≤ w3.heap.size := HE3.out.2.2.2.1
  have hw1 := Hb1.out.size
  have hs0 := HR0.out.1
  go_wp2_with fail
  go_at_call 104
  refine (dgraph_any C n cp i3 a M z _ hc3 (fun p e => by have := HO.out p e; omega) (by omega) (by omega)).mono ?_
  rintro e w4 ⟨gv, L, rfl, ⟨lo, hR, hlo⟩, hL, ⟨i4, hc4⟩, he4⟩
  have hC3 := hc3.lt
  have HE4 := Lib.hid (HE3.out.trans he4)
  have HR := Lib.hid hR
  obtain ⟨ga, gc, hgv⟩ := hR.slice
  subst hgv
  clear he4 HE3 hc3 hR
  have hC4 : C < lo := by omega
  go_wp2_with fail
  obtain ⟨w5, hw5⟩ : ∃ q, q = w4.alloc (.cells #[.int .i64 M, .slice ga L.length gc] 29) := ⟨_, rfl⟩
  obtain ⟨X, hX⟩ : ∃ q, q = w4.heap.size := ⟨_, rfl⟩
  have HK : Hid (DwK w C a n cp X M (.slice ga L.length gc) L w5) := by
    have hE := HE4.out
    have hr0 := HR0.out
    have hb14 := hE.2.2.2.1
    have hb5 : Below w4.heap.size w4 w5 := by rw [hw5]; exact (Below.refl _ _).alloc (Nat.le_refl _) _
    have hs5 : w5.heap.size = w4.heap.size + 1 := by rw [hw5]; simp
    have k0 : ∀ b, b < w0.heap.size → w5.heap[b]? = w0.heap[b]? := fun b hb => ((hb5.block b (by omega)).trans (hE.2.2.2.2 b (by omega) (by omega))).trans (Hb1.out.block b hb)
    have hCl := hc4.lt
    have hR5 : RowO w5 lo w5.heap.size (.slice ga L.length gc) L := (HR.out.else_ (Else.of_below (g := C) hb5) (Nat.le_refl _) (.inr hC4)).wide (Nat.le_refl _) (by omega)
    refine ⟨⟨i4, hc4.below hb5⟩, ⟨hb5.os.trans (hE.1.trans (Hb1.out.os.trans hr0.2.1.os)), hb5.tape.trans (hE.2.1.trans (Hb1.out.tape.trans hr0.2.1.tape)), hb5.output.trans (hE.2.2.1.trans (Hb1.out.output.trans hr0.2.1.output)), by omega, fun b hb => (k0 b (by omega)).trans (hr0.2.1.block b hb)⟩, ⟨hC, by omega, by omega⟩,
      (World.cell?_of_block (w := w0) (a := ⟨w.heap.size, 0, none⟩) (k0 w.heap.size (by omega))).trans hr0.2.2.2.1, (World.cell?_of_block (w := w0) (a := ⟨w.heap.size, 1, none⟩) (k0 w.heap.size (by omega))).trans hr0.2.2.2.2.1, fun o => (World.frozen?_of_block (w := w0) (a := ⟨w.heap.size, o, none⟩) (k0 w.heap.size (by omega))).trans (hr0.2.2.2.2.2 o),
      by rw [hw5, hX]; simp, by rw [hw5, hX]; simp, fun o => by rw [hw5, hX]; simp, rowO_split hR5 hC4 (fun k hk => by have := HR.out.top k hk; omega)⟩
  rw [← hw5, ← hX]
  clear hw5 hX HR HE4 hc4 HR0 Hb1 hw3 hw1 hs0 hlo hC3 hC4 hz z0
  go_at_call 94
  obtain ⟨i5, hc5⟩ := HK.out.cur
  refine (once_any C a n cp i5 25 _ hc5 (by omega)).mono ?_
  rintro e w6 ⟨⟨bb, rfl⟩, k6, he6⟩
  have HK6 : Hid (DwK w C a n cp X M (.slice ga L.length gc) L w6) := HK.out.else_ he6 k6
  clear he6 k6 hc5 HK
  rcases bb with _ | _
  · go_wp2_with fail
    go_at_call 94
    obtain ⟨i9, hc9⟩ := HK6.out.cur
    refine (once_any C a n cp i9 20 _ hc9 (by omega)).mono ?_
    rintro e w9 ⟨⟨bb, rfl⟩, k9, he9⟩
    have HK9 : Hid (DwK w C a n cp X M (.slice ga L.length gc) L w9) := HK6.out.else_ he9 k9
    clear he9 k9 hc9 HK6
    rcases bb with _ | _
    · have tx0 := HK9.out.x0
      have tx1 := HK9.out.x1
      have txf0 := HK9.out.xf 0
      have txf1 := HK9.out.xf 1
      have tr0 := HK9.out.r0
      have tr1 := HK9.out.r1
      have trf0 := HK9.out.rf 0
      have trf1 := HK9.out.rf 1
      go_wp2_with fail
      go_region
      obtain ⟨s0, s1⟩ := res2 (u := .int .i64 M) (v := .slice ga L.length gc) tr0 tr1
      have HQ := (HK9.out.done HO.out (by omega)).drew
      go_wp2_with fail
      exact bodyPost_ret (v := .tuple #[.pointer (some ⟨C, 0, none⟩), .agg #[.int .i64 M, .slice ga L.length gc]]) (by simp [results, Try.results79, go_sem, s0, s1]) rfl HQ
    · have yx0 := HK9.out.x0
      have yx1 := HK9.out.x1
      go_wp2_with fail
      go_at_call 105
      obtain ⟨iA, hcA⟩ := HK9.out.cur
      have hoA := HK9.out.ord
      refine (bend_any C n cp iA (C + 1) a M (.slice ga L.length gc) L w9 hcA (fun p e => by have := HO.out p e; omega) (Nat.lt_succ_self _) (by omega) HK9.out.ro (by omega)).mono ?_
      rintro e wA ⟨M3, gv3, L3, rfl, ⟨lo3, hR3, hlo3⟩, hl3, kA, hfr, hob, hfo⟩
      obtain ⟨z0, z1, zf⟩ := HK9.out.keepX hfo
      have zf0 := zf 0
      have zf1 := zf 1
      obtain ⟨g3, c3, hgv3⟩ := hR3.slice
      subst hgv3
      have HKB := Lib.hid (HK9.out.put (M' := M3) HO.out kA ⟨hfr.1, hfr.2.1, hfr.2.2.1, hfr.2.2.2.1⟩ hfo hR3 (by omega) (fun k hk => by
        rcases hob k hk with e | e
        · exact HK9.out.own k e
        · omega))
      clear hR3 hlo3 kA hfr hob hfo zf hcA hoA HK9 yx0 yx1
      go_wp2_with fail
      obtain ⟨wB, hwB⟩ : ∃ q, q = (wA.setCell ⟨X, 0, none⟩ (.int .i64 M3)).setCell ⟨X, 1, none⟩ (.slice g3 L3.length c3) := ⟨_, rfl⟩
      rw [← hwB] at HKB ⊢
      clear hwB z0 z1 zf0 zf1
      have tx0 := HKB.out.x0
      have tx1 := HKB.out.x1
      have txf0 := HKB.out.xf 0
      have txf1 := HKB.out.xf 1
      have tr0 := HKB.out.r0
      have tr1 := HKB.out.r1
      have trf0 := HKB.out.rf 0
      have trf1 := HKB.out.rf 1
      go_wp2_with fail
      go_region
      obtain ⟨s0, s1⟩ := res2 (u := .int .i64 M3) (v := .slice g3 L3.length c3) tr0 tr1
      have HQ := (HKB.out.done HO.out (by omega)).drew
      go_wp2_with fail
      exact bodyPost_ret (v := .tuple #[.pointer (some ⟨C, 0, none⟩), .agg #[.int .i64 M3, .slice g3 L3.length c3]]) (by simp [results, Try.results79, go_sem, s0, s1]) rfl HQ
  · go_wp2_with fail
    go_at_call 104
    obtain ⟨i7, hc7⟩ := HK6.out.cur
    have ho6 := HK6.out.ord
    have hl6 := HK6.out.bl.size
    refine (dgraph_any C n cp i7 a 10 50 _ hc7 (fun p e => by have := HO.out p e; omega) (by omega) (by omega)).mono ?_
    rintro e w7 ⟨gv2, L2, rfl, ⟨lo2, hR2, hlo2⟩, hL2, k7, he7⟩
    have hfo : ∀ b, b < w6.heap.size → b ≠ C → (Value.slice ga L.length gc).ownBlock ≠ some b → w7.heap[b]? = w6.heap[b]? := fun b h1 h2 _ => he7.2.2.2.2 b h1 h2
    obtain ⟨z0, z1, zf⟩ := HK6.out.keepX hfo
    have zf0 := zf 0
    have zf1 := zf 1
    obtain ⟨g2, c2, hgv2⟩ := hR2.slice
    subst hgv2
    have HK8 := Lib.hid (HK6.out.put (M' := 10) HO.out k7 ⟨he7.1, he7.2.1, he7.2.2.1, he7.2.2.2.1⟩ hfo hR2 (by omega) (fun k hk => by have := (hR2.own.lt k hk).1; omega))
    clear hR2 hlo2 k7 he7 hfo zf ho6 hl6 hc7 HK6
    go_wp2_with fail
    obtain ⟨w8, hw8⟩ : ∃ q, q = (w7.setCell ⟨X, 0, none⟩ (.int .i64 10)).setCell ⟨X, 1, none⟩ (.slice g2 L2.length c2) := ⟨_, rfl⟩
    rw [← hw8] at HK8 ⊢
    clear hw8 z0 z1 zf0 zf1
    go_at_call 94
    obtain ⟨i9, hc9⟩ := HK8.out.cur
    refine (once_any C a n cp i9 20 _ hc9 (by omega)).mono ?_
    rintro e w9 ⟨⟨bb, rfl⟩, k9, he9⟩
    have HK9 : Hid (DwK w C a n cp X 10 (.slice g2 L2.length c2) L2 w9) := HK8.out.else_ he9 k9
    clear he9 k9 hc9 HK8
    rcases bb with _ | _
    · have tx0 := HK9.out.x0
      have tx1 := HK9.out.x1
      have txf0 := HK9.out.xf 0
      have txf1 := HK9.out.xf 1
      have tr0 := HK9.out.r0
      have tr1 := HK9.out.r1
      have trf0 := HK9.out.rf 0
      have trf1 := HK9.out.rf 1
      go_wp2_with fail
      go_region
      obtain ⟨s0, s1⟩ := res2 (u := .int .i64 10) (v := .slice g2 L2.length c2) tr0 tr1
      have HQ := (HK9.out.done HO.out (by omega)).drew
      go_wp2_with fail
      exact bodyPost_ret (v := .tuple #[.pointer (some ⟨C, 0, none⟩), .agg #[.int .i64 10, .slice g2 L2.length c2]]) (by simp [results, Try.results79, go_sem, s0, s1]) rfl HQ
    · have yx0 := HK9.out.x0
      have yx1 := HK9.out.x1
      go_wp2_with fail
      go_at_call 105
      obtain ⟨iA, hcA⟩ := HK9.out.cur
      have hoA := HK9.out.ord
      refine (bend_any C n cp iA (C + 1) a 10 (.slice g2 L2.length c2) L2 w9 hcA (fun p e => by have := HO.out p e; omega) (Nat.lt_succ_self _) (by omega) HK9.out.ro (by omega)).mono ?_
      rintro e wA ⟨M3, gv3, L3, rfl, ⟨lo3, hR3, hlo3⟩, hl3, kA, hfr, hob, hfo⟩
      obtain ⟨z0, z1, zf⟩ := HK9.out.keepX hfo
      have zf0 := zf 0
      have zf1 := zf 1
      obtain ⟨g3, c3, hgv3⟩ := hR3.slice
      subst hgv3
      have HKB := Lib.hid (HK9.out.put (M' := M3) HO.out kA ⟨hfr.1, hfr.2.1, hfr.2.2.1, hfr.2.2.2.1⟩ hfo hR3 (by omega) (fun k hk => by
        rcases hob k hk with e | e
        · exact HK9.out.own k e
        · omega))
      clear hR3 hlo3 kA hfr hob hfo zf hcA hoA HK9 yx0 yx1
      go_wp2_with fail
      obtain ⟨wB, hwB⟩ : ∃ q, q = (wA.setCell ⟨X, 0, none⟩ (.int .i64 M3)).setCell ⟨X, 1, none⟩ (.slice g3 L3.length c3) := ⟨_, rfl⟩
      rw [← hwB] at HKB ⊢
      clear hwB z0 z1 zf0 zf1
      have tx0 := HKB.out.x0
      have tx1 := HKB.out.x1
      have txf0 := HKB.out.xf 0
      have txf1 := HKB.out.xf 1
      have tr0 := HKB.out.r0
      have tr1 := HKB.out.r1
      have trf0 := HKB.out.rf 0
      have trf1 := HKB.out.rf 1
      go_wp2_with fail
      go_region
      obtain ⟨s0, s1⟩ := res2 (u := .int .i64 M3) (v := .slice g3 L3.length c3) tr0 tr1
      have HQ := (HKB.out.done HO.out (by omega)).drew
      go_wp2_with fail
      exact bodyPost_ret (v := .tuple #[.pointer (some ⟨C, 0, none⟩), .agg #[.int .i64 M3, .slice g3 L3.length c3]]) (by simp [results, Try.results79, go_sem, s0, s1]) rfl HQ

end Go.Proofs.Ytjenjdhoblcohaa
