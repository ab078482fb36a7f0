/- The search: what holds of its memory. -/
import Derived.Test.YtjenjdhoblcohaaW29
import Derived.Test.YtjenjdhoblcohaaMd
import Derived.Test.YtjenjdhoblcohaaW6
namespace Go.Proofs.Ytjenjdhoblcohaa
open Go.RowKit


/-- Whether a trail of P ends at node q. -/
def rchB (P : List TV) (q : Nat) : Bool := P.any fun t => lastN t.key == (q : Int)
def rchA (P : List TV) : Array Value := ((List.range 10).map fun q => Value.bool (rchB P q)).toArray
/-- How many of the ten nodes have not been reached. -/
def unr (P : List TV) : Nat := ((List.range 10).filter fun q => !rchB P q).length
theorem rchA_size (P : List TV) : (rchA P).size = 10 := by simp [rchA]
theorem rchA_at (P : List TV) {q : Nat} (h : q < 10) : (rchA P)[q]? = some (.bool (rchB P q)) := by simp [rchA, h]
theorem rchB_snoc (P : List TV) (t : TV) (q : Nat) : rchB (P ++ [t]) q = (rchB P q || (lastN t.key == (q : Int))) := by unfold rchB; rw [List.any_append]; simp
theorem rchB_iff {P : List TV} {q : Nat} : rchB P q = true ↔ ∃ t ∈ P.map TV.key, lastN t = (q : Int) := by
  unfold rchB
  rw [List.any_eq_true]
  constructor
  · rintro ⟨t, ht, h⟩; exact ⟨t.key, List.mem_map.2 ⟨t, ht, rfl⟩, by simpa using h⟩
  · rintro ⟨k, hk, h⟩
    obtain ⟨t, ht, rfl⟩ := List.mem_map.1 hk
    exact ⟨t, ht, by simpa using h⟩
theorem filter_le {p p' : Nat → Bool} (h : ∀ x, p' x = true → p x = true) : ∀ l : List Nat, (l.filter p').length ≤ (l.filter p).length
  | [] => Nat.le_refl _
  | x :: l => by
    have ih := filter_le h l
    rw [List.filter_cons, List.filter_cons]
    by_cases h1 : p' x = true
    · rw [if_pos h1, if_pos (h x h1)]; simp; omega
    · rw [if_neg h1]
      split
      · simp; omega
      · exact ih
theorem filter_lt {p p' : Nat → Bool} (h : ∀ x, p' x = true → p x = true) {q : Nat} (hq : p q = true) (hq' : p' q = false) : ∀ l : List Nat, q ∈ l → (l.filter p').length + 1 ≤ (l.filter p).length
  | [], hm => by cases hm
  | x :: l, hm => by
    rw [List.filter_cons, List.filter_cons]
    rcases List.mem_cons.1 hm with rfl | hm
    · rw [if_neg (by rw [hq']; decide), if_pos hq]
      have := filter_le h l
      simp; omega
    · have ih := filter_lt h hq hq' l hm
      by_cases h1 : p' x = true
      · rw [if_pos h1, if_pos (h x h1)]; simp; omega
      · rw [if_neg h1]
        split
        · simp; omega
        · exact ih
theorem unr_snoc {P : List TV} {t : TV} {q : Nat} (hq : q < 10) (ht : lastN t.key = (q : Int)) (hn : rchB P q = false) : unr (P ++ [t]) + 1 ≤ unr P :=
  filter_lt (fun x hx => by rw [rchB_snoc] at hx; simp at hx; simp [hx.1]) (by rw [hn]; rfl) (by rw [rchB_snoc, ht]; simp) _ (List.mem_range.2 hq)
theorem unr_nil : unr [] = 10 := rfl
/-- The trails taken, as cells. -/
def pcs (P : List TV) : List Value := P.flatMap tv2
theorem pcs_len (P : List TV) : (pcs P).length = P.length * 2 := by
  induction P with
  | nil => rfl
  | cons t P ih => unfold pcs at *; rw [List.flatMap_cons, List.length_append, ih]; simp [tv2]; omega
theorem pcs_snoc (P : List TV) (t : TV) : pcs (P ++ [t]) = pcs P ++ tv2 t := by unfold pcs; rw [List.flatMap_append]; simp
theorem _root_.Go.RowKit.Below.fr {B X : Nat} {w wr w2 : World} {r : Option Nat} (h : Below B w wr) (p : HFr wr w2 X r) (hX : B ≤ X) (hr : ∀ g, r = some g → B ≤ g) (hs : w.heap.size ≤ wr.heap.size) (hB : B ≤ wr.heap.size := by omega) : Below B w w2 :=
  ⟨p.1.trans h.os, p.2.1.trans h.tape, p.2.2.1.trans h.output, Nat.le_trans hs p.2.2.2.1, fun k hk => (p.2.2.2.2 k (by omega) (by omega) (fun e => by have := hr k e; omega)).trans (h.block k hk)⟩
theorem row_fr {wr w2 : World} {X b k n : Nat} {e : TypeId} {v : Value} {xs : List Value} {r : Option Nat} (h : wr.ownsRow b e k v n xs) (p : HFr wr w2 X r) (hX : X < b) (ha : ∀ q, v.ownBlock = some q → r ≠ some q) : w2.ownsRow b e k v n xs := by
  obtain ⟨h1, h2⟩ := h
  refine ⟨h1, ?_⟩
  rcases h2 with h2 | ⟨g, cap, cur, rfl, h3, h4, h5⟩
  · exact .inl h2
  · exact .inr ⟨g, cap, cur, rfl, h3, by rw [p.2.2.2.2 g (Array.getElem?_eq_some_iff.1 h4).1 (by omega) (ha g rfl)]; exact h4, h5⟩
/-- What holds of the search's memory: the old below, the table T, the marks A of the trails Q, the heap X, the trails taken P. -/
structure MSt (w wr : World) (L : List Ed) (A T X : Nat) (vt vh : Value) (Q P : List TV) (F : Nat → TV) (n : Nat) : Prop where
  below : Below w.heap.size w wr
  ord1 : w.heap.size ≤ A ∧ A < T ∧ T < X
  table : wr.heap[T]? = some (.cells (tabOf L) 93 (0, 0))
  marks : wr.heap[A]? = some (.cells (rchA Q) 118 (0, 0))
  heap : HSt wr X vh F n
  hord : Ord leV F n
  row : wr.ownsRow (X + 1) 86 2 vt P.length (pcs P)
  apart : ∀ g, vt.ownBlock = some g → vh.ownBlock ≠ some g
  nodes : ∀ x, Mem F n x ∨ x ∈ P → NAt wr x ∧ X < x.g ∧ vh.ownBlock ≠ some x.g ∧ vt.ownBlock ≠ some x.g
theorem MSt.ltA {w wr : World} {L : List Ed} {A T X n : Nat} {vt vh : Value} {Q P : List TV} {F : Nat → TV} (h : MSt w wr L A T X vt vh Q P F n) : A < wr.heap.size := (Array.getElem?_eq_some_iff.1 h.marks).1
theorem MSt.ltT {w wr : World} {L : List Ed} {A T X n : Nat} {vt vh : Value} {Q P : List TV} {F : Nat → TV} (h : MSt w wr L A T X vt vh Q P F n) : T < wr.heap.size := (Array.getElem?_eq_some_iff.1 h.table).1
theorem MSt.ltX {w wr : World} {L : List Ed} {A T X n : Nat} {vt vh : Value} {Q P : List TV} {F : Nat → TV} (h : MSt w wr L A T X vt vh Q P F n) : X < wr.heap.size := h.heap.2.2.2.1
theorem MSt.mark {w wr : World} {L : List Ed} {A T X n : Nat} {vt vh : Value} {Q P : List TV} {F : Nat → TV} (h : MSt w wr L A T X vt vh Q P F n) {q : Nat} (hq : q < 10) : wr.cell? ⟨A, q, none⟩ = some (.bool (rchB Q q)) := by
  rw [cell_of_row wr A q _ _ _ h.marks]; exact rchA_at Q hq
/-- Boxes of the rounds are new. -/
theorem MSt.grow {w wr w2 : World} {L : List Ed} {A T X n : Nat} {vt vh : Value} {Q P : List TV} {F : Nat → TV} (h : MSt w wr L A T X vt vh Q P F n) (b : Below wr.heap.size wr w2) : MSt w w2 L A T X vt vh Q P F n where
  below := h.below.trans (b.mono h.below.size)
  ord1 := h.ord1
  table := by rw [b.block T h.ltT]; exact h.table
  marks := by rw [b.block A h.ltA]; exact h.marks
  heap := h.heap.below b
  hord := h.hord
  row := h.row.kept (row := none) ⟨b.os, b.tape, b.output, b.size, fun j hj _ => b.block j hj⟩ (by cases hv : vt.ownBlock <;> simp)
  apart := h.apart
  nodes x hx := by
    obtain ⟨h1, h2⟩ := h.nodes x hx
    exact ⟨h1.below b, h2⟩
theorem MSt.pop {w wr w2 : World} {L : List Ed} {A T X n g cap : Nat} {vt : Value} {Q P : List TV} {F : Nat → TV} (h : MSt w wr L A T X vt (.slice (some ⟨g, 0, none⟩) (n + 1) cap) Q P F (n + 1)) (hp : PopPost wr w2 X n F g cap) :
    ∃ F', MSt w w2 L A T X vt (.slice (some ⟨g, 0, none⟩) n cap) Q P F' n ∧ (∀ x, Mem F' n x → Mem F (n + 1) x) ∧ (∀ x, Mem F (n + 1) x → x = F 0 ∨ Mem F' n x) ∧ NAt w2 (F 0) ∧ X < (F 0).g ∧ g ≠ (F 0).g ∧ vt.ownBlock ≠ some (F 0).g := by
  obtain ⟨F', p1, p2, p3, p4, p5⟩ := hp
  have hgX : X < g := (h.heap.2.2.2.2.lt g rfl).1
  have o := h.ord1
  have hr2 : ∀ q, (some g : Option Nat) = some q → X < q := fun q e => by cases e; exact hgX
  have hn : ∀ x, Mem F (n + 1) x ∨ x ∈ P → NAt w2 x ∧ X < x.g ∧ (some g : Option Nat) ≠ some x.g ∧ vt.ownBlock ≠ some x.g := fun x hx => by
    obtain ⟨h1, h2, h3, h4⟩ := h.nodes x hx
    exact ⟨h1.fr p5 (by omega) h3, h2, h3, h4⟩
  obtain ⟨a1, a2, a3, a4⟩ := hn (F 0) (.inl ⟨0, by omega, rfl⟩)
  refine ⟨F', ⟨h.below.fr p5 (by omega) (fun q e => by have := hr2 q e; omega) h.below.size h.below.size, o, ?_, ?_, p1, p2, row_fr h.row p5 (Nat.lt_succ_self _) (fun q e => h.apart q e), h.apart, fun x hx => hn x (hx.imp (p3 x) id)⟩, p3, p4, a1, a2, fun e => a3 (by rw [e]), a4⟩
  · rw [p5.2.2.2.2 T h.ltT (by omega) (fun e => by have := hr2 _ e; omega)]; exact h.table
  · rw [p5.2.2.2.2 A h.ltA (by omega) (fun e => by have := hr2 _ e; omega)]; exact h.marks
/-- A push of a new trail. -/
theorem MSt.push {w wr w2 : World} {L : List Ed} {A T X n : Nat} {vt vh : Value} {Q P : List TV} {F : Nat → TV} {t : TV} (h : MSt w wr L A T X vt vh Q P F n) (hp : PushPost wr w2 X vh F n t) (ht : NAt wr t) (htX : X < t.g) (htv : vh.ownBlock ≠ some t.g) (htt : vt.ownBlock ≠ some t.g) :
    ∃ vh' F', MSt w w2 L A T X vt vh' Q P F' (n + 1) ∧ (∀ x, Mem F' (n + 1) x ↔ Mem F n x ∨ x = t) := by
  obtain ⟨vh', F', p1, p2, p3, p5, p6⟩ := hp
  have o := h.ord1
  have hr2 : ∀ q, vh.ownBlock = some q → X < q := fun q e => (h.heap.2.2.2.2.lt q e).1
  have far : ∀ q, q < wr.heap.size → vh.ownBlock ≠ some q → vh'.ownBlock ≠ some q := fun q hq hne e => by
    rcases p6 with p6 | ⟨g, p6, hg⟩
    · exact hne (p6 ▸ e)
    · rw [p6] at e; cases e; omega
  refine ⟨vh', F', ⟨h.below.fr p5 (by omega) (fun q e => by have := hr2 q e; omega) h.below.size h.below.size, o, ?_, ?_, p1, p2, row_fr h.row p5 (Nat.lt_succ_self _) (fun q e => h.apart q e), fun q e => far q (h.row.lt q e).2 (h.apart q e), fun x hx => ?_⟩, p3⟩
  · rw [p5.2.2.2.2 T h.ltT (by omega) (fun e => by have := hr2 _ e; omega)]; exact h.table
  · rw [p5.2.2.2.2 A h.ltA (by omega) (fun e => by have := hr2 _ e; omega)]; exact h.marks
  · have hx' : NAt wr x ∧ X < x.g ∧ vh.ownBlock ≠ some x.g ∧ vt.ownBlock ≠ some x.g := by
      rcases hx with hx | hx
      · rcases (p3 x).1 hx with hx | rfl
        · exact h.nodes x (.inl hx)
        · exact ⟨ht, htX, htv, htt⟩
      · exact h.nodes x (.inr hx)
    obtain ⟨h1, h2, h3, h4⟩ := hx'
    exact ⟨h1.fr p5 (by omega) h3, h2, far _ h1.2.2.1 h3, h4⟩
theorem rchA_set (P : List TV) (t : TV) {q : Nat} (ht : lastN t.key = (q : Int)) : (rchA P).setIfInBounds q (.bool true) = rchA (P ++ [t]) := by
  apply Array.ext
  · simp [rchA]
  · intro i h1 h2
    have hi : i < 10 := by simpa [rchA] using h2
    rw [Array.getElem_setIfInBounds (by rw [rchA_size]; exact hi)]
    by_cases e : q = i
    · subst e
      simp [rchA, rchB_snoc, ht]
    · have : (lastN t.key == (i : Int)) = false := by rw [ht]; simp; omega
      simp [rchA, rchB_snoc, this, e]
/-- The node is marked. -/
theorem MSt.set {w wr : World} {L : List Ed} {A T X n : Nat} {vt vh : Value} {Q P : List TV} {F : Nat → TV} {t : TV} (h : MSt w wr L A T X vt vh Q P F n) {q : Nat} (ht : lastN t.key = (q : Int)) : MSt w (wr.setCell ⟨A, q, none⟩ (.bool true)) L A T X vt vh (Q ++ [t]) P F n := by
  have o := h.ord1
  have hA := h.ltA
  have blk : ∀ b, b ≠ A → (wr.setCell ⟨A, q, none⟩ (.bool true)).heap[b]? = wr.heap[b]? := fun b hb => Below.heap_setCell _ _ _ _ hb
  have sz : (wr.setCell ⟨A, q, none⟩ (.bool true)).heap.size = wr.heap.size := by simp [World.setCell]
  have hv : ∀ q, vh.ownBlock = some q → X < q := fun q e => (h.heap.2.2.2.2.lt q e).1
  have hb : Below A wr (wr.setCell ⟨A, q, none⟩ (.bool true)) := (Below.refl A wr).setCell (p := ⟨A, q, none⟩) (Nat.le_refl A) _
  refine ⟨h.below.trans (hb.mono o.1), o, by rw [blk T (by omega)]; exact h.table, ?_, ?_, h.hord, ownsRow_setCell_below h.row (by show A < X + 1; omega) _, h.apart, fun x hx => ?_⟩
  · rw [← rchA_set Q t ht]
    simp only [World.setCell, Array.getElem?_modify, if_true]
    rw [h.marks]; rfl
  · obtain ⟨h1, h2, h3, h4, h5⟩ := h.heap
    exact ⟨by rw [World.cell?_of_block (w := wr) (a := ⟨X, 0, none⟩) (blk X (by omega))]; exact h1, by rw [World.cell?_of_block (w := wr) (a := ⟨X, 1, none⟩) (blk X (by omega))]; exact h2, by rw [World.frozen?_of_block (w := wr) (a := ⟨X, 0, none⟩) (blk X (by omega))]; exact h3, by rw [sz]; exact h4, ownsRow_setCell_below h5 (by show A < X + 1; omega) _⟩
  · obtain ⟨⟨a1, a2, a3, a4⟩, h2⟩ := h.nodes x hx
    exact ⟨⟨a1, a2, by rw [sz]; exact a3, ⟨fun q z hz => by rw [World.cell?_of_block (w := wr) (a := ⟨x.g, _, none⟩) (blk x.g (by omega))]; exact a4.at_ q z hz, fun q => (World.frozen?_of_block (w := wr) (a := ⟨x.g, q, none⟩) (blk x.g (by omega))).trans (a4.fz q)⟩⟩, h2⟩
/-- The trail is put behind the others. -/
theorem MSt.take {w wr w2 : World} {L : List Ed} {A T X n : Nat} {vt vt' vh : Value} {Q P : List TV} {F : Nat → TV} {t : TV} (h : MSt w wr L A T X vt vh Q P F n) (hg : wr.grownBy w2 vt.ownBlock) (ht : NAt wr t ∧ X < t.g ∧ vh.ownBlock ≠ some t.g ∧ vt.ownBlock ≠ some t.g) (hv : vt'.ownBlock = vt.ownBlock ∨ ∃ g, vt'.ownBlock = some g ∧ wr.heap.size ≤ g)
    (hr : w2.ownsRow (X + 1) 86 2 vt' (P.length + 1) (pcs P ++ tv2 t)) : MSt w w2 L A T X vt' vh Q (P ++ [t]) F n := by
  have o := h.ord1
  have hvt : ∀ q, vt.ownBlock = some q → X < q := fun q e => (h.row.lt q e).1
  have far : ∀ q, q < wr.heap.size → vt.ownBlock ≠ some q → vt'.ownBlock ≠ some q := fun q hq hne e => by
    rcases hv with p6 | ⟨g, p6, hg⟩
    · exact hne (p6 ▸ e)
    · rw [p6] at e; cases e; omega
  have blk : ∀ b, b < wr.heap.size → vt.ownBlock ≠ some b → w2.heap[b]? = wr.heap[b]? := fun b hb hne => hg.block b hb (fun e => hne e.symm)
  have nv : ∀ b, b ≤ X → vt.ownBlock ≠ some b := fun b hb e => by have := hvt b e; omega
  have hX := h.ltX
  refine ⟨⟨hg.os.trans h.below.os, hg.tape.trans h.below.tape, hg.output.trans h.below.output, Nat.le_trans h.below.size hg.size, fun k hk => (blk k (by have := h.below.size; omega) (nv k (by omega))).trans (h.below.block k hk)⟩, o, by rw [blk T h.ltT (nv T (by omega))]; exact h.table, by rw [blk A h.ltA (nv A (by omega))]; exact h.marks, ?_, h.hord, ?_, fun q e => ?_, fun x hx => ?_⟩
  · obtain ⟨h1, h2, h3, h4, h5⟩ := h.heap
    have bX := blk X hX (nv X (Nat.le_refl _))
    refine ⟨by rw [World.cell?_of_block (w := wr) (a := ⟨X, 0, none⟩) bX]; exact h1, by rw [World.cell?_of_block (w := wr) (a := ⟨X, 1, none⟩) bX]; exact h2, by rw [World.frozen?_of_block (w := wr) (a := ⟨X, 0, none⟩) bX]; exact h3, Nat.lt_of_lt_of_le h4 hg.size, h5.kept hg ?_⟩
    by_cases e : vh.ownBlock = none
    · exact .inl e
    · refine .inr fun e2 => ?_
      obtain ⟨q, hq⟩ := Option.ne_none_iff_exists'.1 e
      exact h.apart q (e2 ▸ hq) hq
  · rw [List.length_append, pcs_snoc]; exact hr
  · intro e2
    rcases hv with p6 | ⟨g, p6, hgg⟩
    · exact h.apart q (p6 ▸ e) e2
    · rw [p6] at e; cases e
      have := (h.heap.2.2.2.2.lt _ e2).2
      omega
  · have hx' : NAt wr x ∧ X < x.g ∧ vh.ownBlock ≠ some x.g ∧ vt.ownBlock ≠ some x.g := by
      rcases hx with hx | hx
      · exact h.nodes x (.inl hx)
      · rcases List.mem_append.1 hx with hx | hx
        · exact h.nodes x (.inr hx)
        · rw [List.mem_singleton] at hx; subst hx; exact ht
    obtain ⟨⟨a1, a2, a3, a4⟩, h2, h3, h4⟩ := hx'
    exact ⟨⟨a1, a2, Nat.lt_of_lt_of_le a3 hg.size, ⟨fun q z hz => by rw [World.cell?_of_block (w := wr) (a := ⟨x.g, _, none⟩) (blk x.g a3 h4)]; exact a4.at_ q z hz, fun q => (World.frozen?_of_block (w := wr) (a := ⟨x.g, q, none⟩) (blk x.g a3 h4)).trans (a4.fz q)⟩⟩, h2, h3, far _ a3 h4⟩

/-- The outer loop's invariant. -/
structure OSt (w wr : World) (L : List Ed) (s : Int) (A T X : Nat) (vt vh : Value) (P : List TV) (F : Nat → TV) (n : Nat) : Prop where
  mem : MSt w wr L A T X vt vh P P F n
  search : DSt L s (P.map TV.key) fun k => ∃ x, Mem F n x ∧ x.key = k
  lens : (∀ x, Mem F n x → x.ns.length ≤ P.length + 1) ∧ ∀ x ∈ P, x.ns.length ≤ P.length
  count : P.length + unr P ≤ 10 ∧ n ≤ 12 * P.length + 1
theorem OSt.min {w wr : World} {L : List Ed} {s : Int} {A T X n : Nat} {vt vh : Value} {P : List TV} {F : Nat → TV} (h : OSt w wr L s A T X vt vh P F (n + 1)) : ∀ k, (∃ x, Mem F (n + 1) x ∧ x.key = k) → leT (F 0).key k := by
  rintro k ⟨x, ⟨i, hi, rfl⟩, rfl⟩
  exact Ord.min leV_pre h.mem.hord i hi
/-- A node that has been reached: the round ends here. -/
theorem OSt.skip {w wr w2 : World} {L : List Ed} {s : Int} {A T X n : Nat} {vt vh vh' : Value} {P : List TV} {F F' : Nat → TV} (h : OSt w wr L s A T X vt vh P F (n + 1)) (hm : MSt w w2 L A T X vt vh' P P F' n)
    (p3 : ∀ x, Mem F' n x → Mem F (n + 1) x) (p4 : ∀ x, Mem F (n + 1) x → x = F 0 ∨ Mem F' n x) (hr : ∃ t ∈ P.map TV.key, lastN t = lastN (F 0).key) : OSt w w2 L s A T X vt vh' P F' n where
  mem := hm
  search := h.search.skip hr (fun k ⟨x, hx, e⟩ => by
    subst e
    rcases p4 x hx with rfl | hx
    · exact .inl rfl
    · exact .inr ⟨x, hx, rfl⟩) (fun k ⟨x, hx, e⟩ => ⟨x, p3 x hx, e⟩)
  lens := ⟨fun x hx => h.lens.1 x (p3 x hx), h.lens.2⟩
  count := ⟨h.count.1, by have := h.count.2; omega⟩
/-- The inner loop's invariant: m is taken, H are the keys that stood in the heap before the pop, y rounds are done. -/
structure ISt (w wr : World) (L : List Ed) (s : Int) (A T X : Nat) (vt vh : Value) (P : List TV) (m : TV) (H : Tr → Prop) (F : Nat → TV) (n y : Nat) : Prop where
  mem : MSt w wr L A T X vt vh (P ++ [m]) (P ++ [m]) F n
  search : DSt L s (P.map TV.key) H
  top : H m.key ∧ ∀ k, H k → leT m.key k
  new : ∀ t ∈ P.map TV.key, lastN t ≠ lastN m.key
  kept : ∀ k, H k → k = m.key ∨ ∃ x, Mem F n x ∧ x.key = k
  from' : ∀ x, Mem F n x → H x.key ∨ ∃ z, cst L (lastN m.key) z ≠ Far ∧ x.key = extT L m.key z
  done : ∀ z : Nat, z < y → cst L (lastN m.key) z ≠ Far → rchB (P ++ [m]) z = false → ∃ x, Mem F n x ∧ x.key = extT L m.key z
  lens : (∀ x, Mem F n x → x.ns.length ≤ P.length + 2) ∧ ∀ x ∈ P ++ [m], x.ns.length ≤ P.length + 1
  count : P.length + 1 + unr (P ++ [m]) ≤ 10 ∧ n ≤ 12 * P.length + y
theorem OSt.inner {w wr w2 : World} {L : List Ed} {s : Int} {A T X n q : Nat} {vt vt' vh vh' : Value} {P : List TV} {F F' : Nat → TV} (h : OSt w wr L s A T X vt vh P F (n + 1)) (hm : MSt w w2 L A T X vt' vh' (P ++ [F 0]) (P ++ [F 0]) F' n)
    (p3 : ∀ x, Mem F' n x → Mem F (n + 1) x) (p4 : ∀ x, Mem F (n + 1) x → x = F 0 ∨ Mem F' n x) (hq : q < 10) (hl : lastN (F 0).key = (q : Int)) (hr : rchB P q = false) : ISt w w2 L s A T X vt' vh' P (F 0) (fun k => ∃ x, Mem F (n + 1) x ∧ x.key = k) F' n 0 where
  mem := hm
  search := h.search
  top := ⟨⟨F 0, ⟨0, by omega, rfl⟩, rfl⟩, h.min⟩
  new t ht e := by
    have : rchB P q = true := rchB_iff.2 ⟨t, ht, e.trans hl⟩
    rw [hr] at this; cases this
  kept k hk := by
    obtain ⟨x, hx, rfl⟩ := hk
    rcases p4 x hx with rfl | hx
    · exact .inl rfl
    · exact .inr ⟨x, hx, rfl⟩
  from' x hx := .inl ⟨x, p3 x hx, rfl⟩
  done z hz := by omega
  lens := ⟨fun x hx => by have := h.lens.1 x (p3 x hx); omega, fun x hx => by
    rcases List.mem_append.1 hx with hx | hx
    · have := h.lens.2 x hx; omega
    · rw [List.mem_singleton] at hx; subst hx
      exact h.lens.1 _ ⟨0, by omega, rfl⟩⟩
  count := ⟨by have := h.count.1; have := unr_snoc (P := P) (t := F 0) hq hl hr; omega, by have := h.count.2; omega⟩
/-- An edge that is left out. -/
theorem ISt.pass {w wr w2 : World} {L : List Ed} {s : Int} {A T X n y : Nat} {vt vh : Value} {P : List TV} {m : TV} {H : Tr → Prop} {F : Nat → TV} (h : ISt w wr L s A T X vt vh P m H F n y) (hm : MSt w w2 L A T X vt vh (P ++ [m]) (P ++ [m]) F n) (hc : cst L (lastN m.key) y = Far ∨ rchB (P ++ [m]) y = true) : ISt w w2 L s A T X vt vh P m H F n (y + 1) where
  mem := hm
  search := h.search
  top := h.top
  new := h.new
  kept := h.kept
  from' := h.from'
  done z hz h1 h2 := by
    by_cases e : z = y
    · subst e
      rcases hc with hc | hc
      · exact absurd hc h1
      · rw [hc] at h2; cases h2
    · exact h.done z (by omega) h1 h2
  lens := h.lens
  count := ⟨h.count.1, by have := h.count.2; omega⟩
/-- An edge on which a trail goes on. -/
theorem ISt.push {w wr w2 : World} {L : List Ed} {s : Int} {A T X n y : Nat} {vt vh vh' : Value} {P : List TV} {m t : TV} {H : Tr → Prop} {F F' : Nat → TV} (h : ISt w wr L s A T X vt vh P m H F n y) (hm : MSt w w2 L A T X vt vh' (P ++ [m]) (P ++ [m]) F' (n + 1))
    (p3 : ∀ x, Mem F' (n + 1) x ↔ Mem F n x ∨ x = t) (hk : t.key = extT L m.key y) (hl : t.ns.length = m.ns.length + 1) (hc : cst L (lastN m.key) y ≠ Far) : ISt w w2 L s A T X vt vh' P m H F' (n + 1) (y + 1) where
  mem := hm
  search := h.search
  top := h.top
  new := h.new
  kept k hk := (h.kept k hk).imp id fun ⟨x, hx, e⟩ => ⟨x, (p3 x).2 (.inl hx), e⟩
  from' x hx := by
    rcases (p3 x).1 hx with hx | rfl
    · exact h.from' x hx
    · exact .inr ⟨y, hc, hk⟩
  done z hz h1 h2 := by
    by_cases e : z = y
    · subst e
      exact ⟨t, (p3 t).2 (.inr rfl), hk⟩
    · obtain ⟨x, hx, e⟩ := h.done z (by omega) h1 h2
      exact ⟨x, (p3 x).2 (.inl hx), e⟩
  lens := ⟨fun x hx => by
    rcases (p3 x).1 hx with hx | rfl
    · exact h.lens.1 x hx
    · have := h.lens.2 m (by simp); omega, h.lens.2⟩
  count := ⟨h.count.1, by have := h.count.2; omega⟩
theorem ISt.fin {w wr : World} {N : Int} {L : List Ed} {s : Int} {A T X n : Nat} {vt vh : Value} {P : List TV} {m : TV} {H : Tr → Prop} {F : Nat → TV} (hG : gok N L = true) (hfar : ∀ x y : Int, cst L x y ≠ Far → 0 ≤ y ∧ y < 10) (h : ISt w wr L s A T X vt vh P m H F n 10) : OSt w wr L s A T X vt vh (P ++ [m]) F n where
  mem := h.mem
  search := by
    rw [List.map_append]
    refine h.search.take hG h.top.1 h.top.2 h.new h.kept (fun k ⟨x, hx, e⟩ => ?_) (fun y h1 h2 h3 => ?_)
    · subst e
      exact h.from' x hx
    · have hy := hfar _ _ h1
      obtain ⟨z, rfl⟩ : ∃ z : Nat, y = z := ⟨y.toNat, by omega⟩
      refine h.done z (by omega) h1 ?_
      cases hb : rchB (P ++ [m]) z with
      | false => rfl
      | true =>
        obtain ⟨t, ht, e⟩ := rchB_iff.1 hb
        rw [List.map_append, List.mem_append] at ht
        rcases ht with ht | ht
        · exact absurd e (h2 t ht)
        · simp at ht; subst ht; exact absurd e h3
  lens := ⟨fun x hx => by have := h.lens.1 x hx; simp; omega, fun x hx => by have := h.lens.2 x hx; simp; omega⟩
  count := ⟨by have := h.count.1; simp; omega, by have := h.count.2; simp; omega⟩

theorem OSt.start {w wr : World} {L : List Ed} {s : Int} {A T X : Nat} {vt vh : Value} {F : Nat → TV} {t : TV} (hm : MSt w wr L A T X vt vh [] [] F 1) (h : ∀ x, Mem F 1 x ↔ x = t) (hk : t.key = (0, [s])) (hl : t.ns.length = 1) : OSt w wr L s A T X vt vh [] F 1 where
  mem := hm
  search := DSt.start L s _ fun k => ⟨fun ⟨x, hx, e⟩ => by rw [(h x).1 hx] at e; rw [← e, hk], fun e => ⟨t, (h t).2 rfl, by rw [hk, e]⟩⟩
  lens := ⟨fun x hx => by rw [(h x).1 hx, hl]; simp, fun x hx => by cases hx⟩
  count := ⟨by rw [unr_nil]; simp, by simp⟩
theorem OSt.found {w wr : World} {N : Int} {L : List Ed} {s : Int} {A T X : Nat} {vt vh : Value} {P : List TV} {F : Nat → TV} (hG : gok N L = true) (h : OSt w wr L s A T X vt vh P F 0) : Found L s (P.map TV.key) :=
  h.search.found hG fun _ ⟨_, ⟨_, hi, _⟩, _⟩ => absurd hi (Nat.not_lt_zero _)
/-- The marks at the start. -/
theorem rchA_nil : rchA [] = (List.replicate 10 (Value.bool false)).toArray := rfl
/-- A heap with nothing in it. -/
theorem HSt.empty {w : World} {X : Nat} {F : Nat → TV} (h0 : w.cell? ⟨X, 0, none⟩ = some (.slice none 0 0)) (h1 : w.cell? ⟨X, 1, none⟩ = some (.func (.func 95) #[] #[])) (h2 : w.frozen? ⟨X, 0, none⟩ = false) (h3 : X < w.heap.size) : HSt w X (.slice none 0 0) F 0 :=
  ⟨h0, h1, h2, h3, World.ownsRow_nil _ _ _ _⟩
theorem MSt.zero {w wr : World} {L : List Ed} {A T X : Nat} {F : Nat → TV} (hb : Below w.heap.size w wr) (ho : w.heap.size ≤ A ∧ A < T ∧ T < X) (hT : wr.heap[T]? = some (.cells (tabOf L) 93 (0, 0))) (hA : wr.heap[A]? = some (.cells (rchA []) 118 (0, 0))) (hX : HSt wr X (.slice none 0 0) F 0) : MSt w wr L A T X (.slice none 0 0) (.slice none 0 0) [] [] F 0 where
  below := hb
  ord1 := ho
  table := hT
  marks := hA
  heap := hX
  hord := fun i _ hi => absurd hi (Nat.not_lt_zero _)
  row := World.ownsRow_nil _ _ _ _
  apart := fun g e => by cases e
  nodes := fun x hx => by
    rcases hx with ⟨i, hi, _⟩ | hx
    · exact absurd hi (Nat.not_lt_zero _)
    · cases hx

end Go.Proofs.Ytjenjdhoblcohaa
