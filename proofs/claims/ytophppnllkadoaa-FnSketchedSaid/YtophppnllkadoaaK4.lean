/- Sketches of ones own. -/
import Derived.Test.YtophppnllkadoaaK1
import Derived.Test.YtophppnllkadoaaPb
namespace Go.Proofs.Ytophppnllkadoaa
open Go.RowKit


theorem Try.info41k : (Try.prog.info? 41).map (fun i => (i.zero, i.size, i.bytes)) = some (some (.slice none 0 0), 1, 24) := by kernel_rfl
theorem Row.grown {k : Nat} {w wr : World} {r : Option Nat} {lo hi n : Nat} {v : Value} {Z : List Int} (h : Row k w lo hi v n Z) (hg : w.grownBy wr r) (hh : hi ≤ w.heap.size) (hr : ∀ b, r = some b → ¬ (lo ≤ b ∧ b < hi)) : Row k wr lo hi v n Z := by
  obtain ⟨h0, h⟩ := h
  refine ⟨h0, ?_⟩
  rcases h with h | ⟨b, cap, rfl, h1, h2, h3, h4, h5⟩
  · exact .inl h
  · have hb := hg.block b (by omega) (fun e => hr b e.symm ⟨h1, h2⟩)
    refine .inr ⟨b, cap, rfl, h1, h2, h3, fun q z hz => ?_, fun o => ?_⟩
    · rw [World.cell?_of_block (w := w) (a := ⟨b, q, none⟩) hb]; exact h4 q z hz
    · rw [World.frozen?_of_block (w := w) (a := ⟨b, o, none⟩) hb]; exact h5 o
theorem range_map_snoc (vs : Nat → Value) (k : Nat) (d : Value) : (List.range (k + 1)).map (fun i => if i = k then d else vs i) = (List.range k).map vs ++ [d] := by
  rw [List.range_succ, List.map_append]
  congr 1
  · exact List.map_congr_left fun i hi => if_neg (by have := List.mem_range.1 hi; omega)
  · simp
/-- Rows of rows of one's own, above B. -/
structure KSt (B : Nat) (wr : World) (v : Value) (D : List (List Int)) (vs : Nat → Value) (bs : Nat → Nat × Nat) : Prop where
  row : wr.ownsRow B 41 1 v D.length ((List.range D.length).map vs)
  inner : ∀ i l, D[i]? = some l → Row 1 wr (bs i).1 (bs i).2 (vs i) l.length l ∧ B ≤ (bs i).1 ∧ (bs i).2 ≤ wr.heap.size
  apart : ∀ i j, i < j → j < D.length → (bs i).2 ≤ (bs j).1
  far : ∀ b, v.ownBlock = some b → ∀ i, i < D.length → ¬ ((bs i).1 ≤ b ∧ b < (bs i).2)
theorem KSt.nil (B : Nat) (w : World) : KSt B w (.slice none 0 0) [] (fun _ => .slice none 0 0) (fun _ => (0, 0)) :=
  ⟨World.ownsRow_nil _ _ _ _, fun i l h => by simp at h, fun i j _ h => absurd h (Nat.not_lt_zero _), fun b h => by cases h⟩
theorem KSt.grow {B : Nat} {wr w2 : World} {v : Value} {D : List (List Int)} {vs : Nat → Value} {bs : Nat → Nat × Nat} (h : KSt B wr v D vs bs) (b : Below wr.heap.size wr w2) : KSt B w2 v D vs bs :=
  ⟨h.row.kept (row := none) ⟨b.os, b.tape, b.output, b.size, fun j hj _ => b.block j hj⟩ (by cases hv : v.ownBlock <;> simp), fun i l hl => by
    obtain ⟨h1, h2, h3⟩ := h.inner i l hl
    exact ⟨h1.below b h3, h2, Nat.le_trans h3 b.size⟩, h.apart, h.far⟩
theorem KSt.setCell {B : Nat} {wr : World} {v : Value} {D : List (List Int)} {vs : Nat → Value} {bs : Nat → Nat × Nat} (h : KSt B wr v D vs bs) {p : Addr} (hp : p.block < B) (u : Value) : KSt B (wr.setCell p u) v D vs bs :=
  ⟨ownsRow_setCell_below h.row hp u, fun i l hl => by
    obtain ⟨h1, h2, h3⟩ := h.inner i l hl
    exact ⟨h1.setCell (.inl (by omega)) u, h2, by simpa [World.setCell] using h3⟩, h.apart, h.far⟩
theorem KSt.app {B : Nat} {wr w2 w3 w4 : World} {v v' dv : Value} {g : Nat} {D : List (List Int)} {l : List Int} {vs : Nat → Value} {bs : Nat → Nat × Nat} (h : KSt B wr v D vs bs) (hB : B ≤ wr.heap.size) (b2 : Below wr.heap.size wr w2) (hd : Row 1 w2 wr.heap.size w2.heap.size dv l.length l) (b3 : Below w2.heap.size w2 w3)
    (hg : w3.grownBy w4 v.ownBlock) (hv : v'.ownBlock = some g) (hat : v.ownBlock = some g ∨ w3.heap.size ≤ g) (hr : w4.ownsRow B 41 1 v' (D.length + 1) ((List.range D.length).map vs ++ [dv])) : ∃ vs' bs', KSt B w4 v' (D ++ [l]) vs' bs' := by
  have s2 := b2.size
  have s3 := b3.size
  have s4 := hg.size
  have b23 : Below wr.heap.size wr w3 := b2.trans (b3.mono s2)
  have h3 := h.grow b23
  have hlt : ∀ b, v.ownBlock = some b → B ≤ b ∧ b < wr.heap.size := fun b e => h.row.lt b e
  have hDl : (D ++ [l]).length = D.length + 1 := by simp
  refine ⟨fun i => if i = D.length then dv else vs i, fun i => if i = D.length then (wr.heap.size, w2.heap.size) else bs i, ?_, fun i l' hi => ?_, fun i j hij hj => ?_, fun b e i hi => ?_⟩
  · rw [hDl, range_map_snoc]
    exact hr
  · by_cases e : i = D.length
    · subst e
      rw [List.getElem?_append_right (Nat.le_refl _)] at hi
      obtain rfl : l = l' := by simpa using hi
      simp only [if_true]
      exact ⟨(hd.below b3 (Nat.le_refl _)).grown hg (by omega) (fun b e => by have := (hlt b e).2; omega), hB, by omega⟩
    · simp only [if_neg e]
      have hil := (List.getElem?_eq_some_iff.1 hi).1
      rw [hDl] at hil
      rw [List.getElem?_append_left (by omega)] at hi
      obtain ⟨h1, h2, h4⟩ := h3.inner i l' hi
      exact ⟨h1.grown hg h4 (fun b e2 => h.far b e2 i (by omega)), h2, by omega⟩
  · rw [hDl] at hj
    by_cases e : j = D.length
    · subst e
      rw [if_neg (show ¬ i = D.length by omega), if_pos rfl]
      exact (h.inner i _ (List.getElem?_eq_getElem hij)).2.2
    · rw [if_neg (show ¬ i = D.length by omega), if_neg e]
      exact h.apart i j hij (by omega)
  · rw [hDl] at hi
    rw [hv] at e
    cases e
    by_cases e : i = D.length
    · subst e
      simp only [if_true]
      rcases hat with hat | hat
      · have := (hlt _ hat).2; omega
      · omega
    · simp only [if_neg e]
      rcases hat with hat | hat
      · exact h.far _ hat i (by omega)
      · have := (h.inner i _ (List.getElem?_eq_getElem (show i < D.length by omega))).2.2; omega
theorem KSt.toRow {B : Nat} {wr : World} {v : Value} {D : List (List Int)} {vs : Nat → Value} {bs : Nat → Nat × Nat} (h : KSt B wr v D vs bs) (hl : D.length ≤ 1100000) : KRow wr B wr.heap.size v D.length D := by
  obtain ⟨a, c, e⟩ := own_slice h.row
  refine ⟨⟨a, c, vs, bs, e, hl, fun hn => ?_, h.inner, h.apart⟩, rfl⟩
  have hlt := h.row.lt
  have hfar := h.far
  have hcells := fun g hg => h.row.cells (g := g) hg
  obtain ⟨_, h2⟩ := h.row
  rcases h2 with ⟨rfl, h3⟩ | ⟨g, cap, cur, rfl, h3, h4, h5, h6, h7, h8⟩
  · omega
  · obtain ⟨_, hg⟩ := hlt g rfl
    simp only [Value.slice.injEq] at e
    refine ⟨g, e.1.symm, h3, hg, fun o => by simp [World.frozen?, h4], fun i l hi => ?_, fun i hi => ?_⟩
    · have hil := (List.getElem?_eq_some_iff.1 hi).1
      have c0 := hcells g rfl i (vs i) (by simp [hil])
      rw [add_none] at c0
      exact c0
    · have := hfar g rfl i hi
      omega
/-- A sketch gathered in block X since w3: its rows, its total. -/
def OutK (w3 wr : World) (X : Nat) (t : Int) (D : List (List Int)) : Prop :=
  Below X w3 wr ∧ X < w3.heap.size ∧ (∀ o, wr.frozen? ⟨X, o, none⟩ = false) ∧ wr.cell? ⟨X, 1, none⟩ = some (.int .i64 t) ∧ ∃ rv vs bs, wr.cell? ⟨X, 0, none⟩ = some rv ∧ KSt (X + 1) wr rv D vs bs
theorem OutK.start {w3 : World} {X : Nat} {t : Int} (hX : X < w3.heap.size) (hf : ∀ o, w3.frozen? ⟨X, o, none⟩ = false) (hc : w3.cell? ⟨X, 0, none⟩ = some (.slice none 0 0)) (hc1 : w3.cell? ⟨X, 1, none⟩ = some (.int .i64 t)) : OutK w3 w3 X t [] :=
  ⟨Below.refl _ _, hX, hf, hc1, _, _, _, hc, KSt.nil _ _⟩
theorem OutK.size {w3 wr : World} {X : Nat} {t : Int} {D : List (List Int)} (h : OutK w3 wr X t D) : X < wr.heap.size := Nat.lt_of_lt_of_le h.2.1 h.1.size
theorem OutK.below {w3 wr w4 : World} {X : Nat} {t : Int} {D : List (List Int)} (h : OutK w3 wr X t D) (hb : Below wr.heap.size wr w4) : OutK w3 w4 X t D := by
  have hs := h.size
  obtain ⟨h1, h2, h3, h4, rv, vs, bs, h5, h6⟩ := h
  exact ⟨h1.trans (hb.mono (by omega)), h2, fun o => by rw [hb.frozen (p := ⟨X, o, none⟩) hs]; exact h3 o, by rw [hb.cell (p := ⟨X, 1, none⟩) hs]; exact h4, rv, vs, bs, by rw [hb.cell (p := ⟨X, 0, none⟩) hs]; exact h5, h6.grow hb⟩
theorem OutK.drewN {w3 wr : World} {X : Nat} {t : Int} {D : List (List Int)} (h : OutK w3 wr X t D) (q : Nat) : OutK w3 (wr.drewN q) X t D := h.below (below_drewN _ _)
theorem KSt.drew {B : Nat} {wr : World} {v : Value} {D : List (List Int)} {vs : Nat → Value} {bs : Nat → Nat × Nat} (h : KSt B wr v D vs bs) : KSt B wr.drew v D vs bs := h.grow ⟨rfl, rfl, rfl, Nat.le_refl _, fun _ _ => rfl⟩
theorem OutK.drew {w3 wr : World} {X : Nat} {t : Int} {D : List (List Int)} (h : OutK w3 wr X t D) : OutK w3 wr.drew X t D := h.below ⟨rfl, rfl, rfl, Nat.le_refl _, fun _ _ => rfl⟩
theorem OutK.keep {w3 wr : World} {X : Nat} {t : Int} {D : List (List Int)} {b o : Nat} {u : Value} (h : OutK w3 wr X t D) (hb : b < X) (hc : w3.cell? ⟨b, o, none⟩ = some u) : wr.cell? ⟨b, o, none⟩ = some u := by rw [h.1.cell (p := ⟨b, o, none⟩) hb]; exact hc
theorem OutK.keepf {w3 wr : World} {X : Nat} {t : Int} {D : List (List Int)} {b o : Nat} (h : OutK w3 wr X t D) (hb : b < X) (hc : w3.frozen? ⟨b, o, none⟩ = false) : wr.frozen? ⟨b, o, none⟩ = false := by rw [h.1.frozen (p := ⟨b, o, none⟩) hb]; exact hc
theorem OutK.take {w3 wr : World} {X : Nat} {t : Int} {D : List (List Int)} (h : OutK w3 wr X t D) (hl : D.length ≤ 1100000) : ∃ ra rc, wr.cell? ⟨X, 0, none⟩ = some (.slice ra D.length rc) ∧ KRow wr (X + 1) wr.heap.size (.slice ra D.length rc) D.length D := by
  obtain ⟨_, _, _, _, rv, vs, bs, h4, h5⟩ := h
  obtain ⟨ra, rc, rfl⟩ := own_slice h5.row
  exact ⟨ra, rc, h4, h5.toRow hl⟩
theorem OutK.app {w3 wr w2 wv w4 : World} {X : Nat} {t : Int} {D : List (List Int)} {l : List Int} {v v' dv : Value} {g n : Nat} {vs : Nat → Value} {bs : Nat → Nat × Nat} (h : OutK w3 wr X t D) (hst : KSt (X + 1) wr v D vs bs) (b2 : Below wr.heap.size wr w2) (hd : Row 1 w2 wr.heap.size w2.heap.size dv l.length l) (b3 : Below w2.heap.size w2 wv)
    (hg : wv.grownBy w4 v.ownBlock) (hv : v'.ownBlock = some g) (hat : v.ownBlock = some g ∨ wv.heap.size ≤ g) (hn : n = D.length) (hr : w4.ownsRow (X + 1) 41 1 v' (n + 1) ((List.range n).map vs ++ [dv])) : (∃ u, w4.cell? ⟨X, 0, none⟩ = some u) ∧ w4.frozen? ⟨X, 0, none⟩ = false ∧ OutK w3 (w4.setCell ⟨X, 0, none⟩ v') X t (D ++ [l]) := by
  subst hn
  have hs := h.size
  have s2 := b2.size
  have s3 := b3.size
  have hne : some X ≠ v.ownBlock := fun e => by have := (hst.row.lt X e.symm).1; omega
  have b23 : Below wr.heap.size wr wv := b2.trans (b3.mono s2)
  have h' := h.below b23
  have hlt : X < wv.heap.size := by omega
  obtain ⟨h1, h2, h3, h4, rv, _, _, h5, _⟩ := h'
  have c4 : ∀ o, w4.cell? ⟨X, o, none⟩ = wv.cell? ⟨X, o, none⟩ := fun o => hg.cell_far ⟨X, o, none⟩ hlt hne
  have f4 : ∀ o, w4.frozen? ⟨X, o, none⟩ = false := fun o => by rw [hg.frozen_far ⟨X, o, none⟩ hlt hne]; exact h3 o
  have c40 := (c4 0).trans h5
  refine ⟨⟨_, c40⟩, f4 0, ?_⟩
  have hB : Below X w3 w4 := h1.grown hg (by omega) (fun k hk => by have := (hst.row.lt k hk).1; omega)
  obtain ⟨vs', bs', hK⟩ := hst.app (by omega) b2 hd b3 hg hv hat hr
  exact ⟨hB.setCell (Nat.le_refl _) _, h2, fun o => by rw [World.frozen?_setCell]; exact f4 o, by rw [World.cell?_setCell_other _ _ _ _ (by simp), c4]; exact h4, v', vs', bs', World.cell?_setCell_same' _ _ _ (by rw [c40]; rfl), hK.setCell (by show X < X + 1; omega) _⟩
theorem slice_one (a : Option Addr) (n c : Nat) : ∀ u ∈ [Value.slice a n c], u.oneCell' = true := by intro u hu; simp at hu; subst hu; rfl
theorem cell_one_new (w : World) (v : Value) (T : TypeId) {B : Nat} (hB : B = w.heap.size) (j : Nat) (u : Value) (h : ([v] : List Value)[j]? = some u) : (w.alloc (.cells #[v] T)).cell? ((⟨B, 0, none⟩ : Addr).add j) = some u := by
  subst hB
  rw [add_none, new_at rfl]
  simpa using h
/-- What a function that answers a sketch leaves. -/
def SkPost (t : Int) (D : List (List Int)) (w : World) (e : Ending) (w' : World) : Prop := ∃ rv, e = .returned (.agg #[rv, .int .i64 t]) ∧ KRow w' w.heap.size w'.heap.size rv D.length D ∧ Below w.heap.size w w'
def SkBPost (t : Int) (D : List (List Int)) (ok : Bool) (w : World) (e : Ending) (w' : World) : Prop := ∃ rv, e = .returned (.tuple #[.agg #[rv, .int .i64 t], .bool ok]) ∧ KRow w' w.heap.size w'.heap.size rv D.length D ∧ Below w.heap.size w w'

end Go.Proofs.Ytophppnllkadoaa
