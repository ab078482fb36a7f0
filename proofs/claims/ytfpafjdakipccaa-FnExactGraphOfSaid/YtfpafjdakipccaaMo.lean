/- Advertisements gathered one by one. -/
import Derived.Test.YtfpafjdakipccaaGu
import Derived.Maps.AppendAt
import Derived.Deep.AppendLies
import Derived.Deep.RegionLaw
import Derived.Test.YtfpafjdakipccaaX6
namespace Go.Proofs.Ytfpafjdakipccaa
open Go.RowKit
structure Ent where
  l : Ls
  u : Value
  x : Value
  lo : Nat
  hi : Nat
def ecs (e : Ent) : List Value := [.int .i64 e.l.o, .int .i64 e.l.s, .int .i64 e.l.g, e.u, e.x]
def ecells (E : List Ent) : List Value := E.flatMap ecs
theorem ecells_app (A B : List Ent) : ecells (A ++ B) = ecells A ++ ecells B := by simp [ecells]
theorem ecells_one (e : Ent) : ecells [e] = ecs e := by simp [ecells]
theorem ecells_cons (e : Ent) (E : List Ent) : ecells (e :: E) = ecs e ++ ecells E := by simp [ecells]
theorem ecells_at : ∀ (E : List Ent) (i : Nat) (e : Ent) (j : Nat), E[i]? = some e -> j < 5 -> (ecells E)[i * 5 + j]? = (ecs e)[j]?
  | [], _, _, _, h, _ => by simp at h
  | e' :: E, 0, e, j, h, hj => by
    obtain rfl : e' = e := by simpa using h
    rw [ecells_cons, Nat.zero_mul, Nat.zero_add, List.getElem?_append_left (by show j < 5; exact hj)]
  | e' :: E, i + 1, e, j, h, hj => by
    have := ecells_at E i e j (by simpa using h) hj
    rw [ecells_cons, List.getElem?_append_right (by show 5 <= _; omega)]
    show (ecells E)[(i + 1) * 5 + j - 5]? = _
    rw [show (i + 1) * 5 + j - 5 = i * 5 + j by omega]
    exact this
structure OutE (w3 wr : World) (X : Nat) (rv : Value) (E : List Ent) : Prop where
  below : Below X w3 wr
  lo : X < w3.heap.size
  frz : wr.frozen? ⟨X, 0, none⟩ = false
  cell : wr.cell? ⟨X, 0, none⟩ = some rv
  own : wr.ownsRow (X + 1) 33 5 rv E.length (ecells E)
  row : ∀ e ∈ E, LRow wr e.lo e.hi e.u e.x e.l.K.length e.l.T.length (flat2 e.l.K) (flat e.l.T) /\ X < e.lo /\ e.hi <= wr.heap.size
  apart : E.Pairwise fun a b => a.hi <= b.lo
  far : ∀ g, rv.ownBlock = some g -> ∀ e ∈ E, g < e.lo ∨ e.hi <= g
theorem OutE.start {w3 : World} {X : Nat} (hX : X < w3.heap.size) (hf : w3.frozen? ⟨X, 0, none⟩ = false) (hc : w3.cell? ⟨X, 0, none⟩ = some (.slice none 0 0)) : OutE w3 w3 X (.slice none 0 0) [] :=
  ⟨Below.refl _ _, hX, hf, hc, World.ownsRow_nil _ _ _ _, fun e he => by simp at he, List.Pairwise.nil, fun g hg => by simp [Value.ownBlock] at hg⟩
theorem OutE.size {w3 wr : World} {X : Nat} {rv : Value} {E : List Ent} (h : OutE w3 wr X rv E) : X < wr.heap.size := Nat.lt_of_lt_of_le h.lo h.below.size
theorem OutE.grow {w3 wr w4 : World} {X : Nat} {rv : Value} {E : List Ent} (h : OutE w3 wr X rv E) (hb : Below wr.heap.size wr w4) : OutE w3 w4 X rv E where
  below := h.below.trans (hb.mono (Nat.le_of_lt h.size))
  lo := h.lo
  frz := by rw [hb.frozen (p := ⟨X, 0, none⟩) h.size]; exact h.frz
  cell := by rw [hb.cell (p := ⟨X, 0, none⟩) h.size]; exact h.cell
  own := h.own.kept (row := none) ⟨hb.os, hb.tape, hb.output, hb.size, fun j hj _ => hb.block j hj⟩ (by cases hv : rv.ownBlock <;> simp)
  row e he := by
    obtain ⟨h1, h2, h3⟩ := h.row e he
    exact ⟨h1.below hb h3, h2, Nat.le_trans h3 hb.size⟩
  apart := h.apart
  far := h.far
theorem OutE.drew {w3 wr : World} {X : Nat} {rv : Value} {E : List Ent} (h : OutE w3 wr X rv E) : OutE w3 wr.drew X rv E := h.grow (Below.refl _ _).drew
theorem OutE.lt {w3 wr : World} {X : Nat} {rv : Value} {E : List Ent} (h : OutE w3 wr X rv E) {g : Nat} (hg : rv.ownBlock = some g) : X < g /\ g < wr.heap.size := by
  have := h.own.lt g hg
  exact ⟨by omega, this.2⟩
theorem OutE.app {w3 wr w4 : World} {X g cap n : Nat} {rv : Value} {E : List Ent} {o : Obj} {e : Ent} (h : OutE w3 wr X rv E) (hr : LRow wr e.lo e.hi e.u e.x e.l.K.length e.l.T.length (flat2 e.l.K) (flat e.l.T)) (h1 : X < e.lo) (h2 : e.hi <= wr.heap.size)
    (h3 : ∀ e' ∈ E, e'.hi <= e.lo) (h4 : ∀ k, rv.ownBlock = some k -> k < e.lo) (hg : (wr.alloc o).grownBy w4 rv.ownBlock) (hn : n = E.length + 1)
    (hown : w4.ownsRow (X + 1) 33 5 (.slice (some ⟨g, 0, none⟩) n cap) n (ecells E ++ ecs e)) (hat : rv.ownBlock = some g ∨ g = wr.heap.size + 1) :
    (∃ u, w4.cell? ⟨X, 0, none⟩ = some u) /\ w4.frozen? ⟨X, 0, none⟩ = false /\ X < w4.heap.size /\ wr.heap.size <= w4.heap.size /\ OutE w3 (w4.setCell ⟨X, 0, none⟩ (.slice (some ⟨g, 0, none⟩) n cap)) X (.slice (some ⟨g, 0, none⟩) n cap) (E ++ [e]) := by
  subst hn
  have hs := h.size
  have hne : some X ≠ rv.ownBlock := fun q => by have := (h.lt q.symm).1; omega
  have hlt : X < (wr.alloc o).heap.size := by simp; omega
  have c4 : w4.cell? ⟨X, 0, none⟩ = some rv := by rw [hg.cell_far ⟨X, 0, none⟩ hlt hne, old_box hs]; exact h.cell
  have f4 : w4.frozen? ⟨X, 0, none⟩ = false := by rw [hg.frozen_far ⟨X, 0, none⟩ hlt hne]; rw [((Below.refl wr.heap.size wr).alloc (Nat.le_refl _) o).frozen (p := ⟨X, 0, none⟩) hs]; exact h.frz
  have hz : (wr.alloc o).heap.size <= w4.heap.size := hg.size
  have hz' : wr.heap.size + 1 <= w4.heap.size := by simpa using hz
  have hkeep : ∀ (lo hi : Nat) (u x : Value) (n m : Nat) (Y Z : List Int), LRow wr lo hi u x n m Y Z -> hi <= wr.heap.size -> X < lo -> (∀ k, rv.ownBlock = some k -> k < lo ∨ hi <= k) -> LRow (w4.setCell ⟨X, 0, none⟩ (.slice (some ⟨g, 0, none⟩) (E.length + 1) cap)) lo hi u x n m Y Z := by
    intro lo hi u x n m Y Z hrow hhi hlo hfar
    obtain ⟨mid, m1, m2, r1, r2⟩ := hrow
    have hb : ∀ b, lo <= b -> b < hi -> (w4.setCell ⟨X, 0, none⟩ (.slice (some ⟨g, 0, none⟩) (E.length + 1) cap)).heap[b]? = wr.heap[b]? := fun b h5 h6 => by
      rw [Below.heap_setCell _ _ _ _ (by show b ≠ X; omega), hg.block b (by simp; omega) (fun q => by have := hfar b q.symm; omega)]
      exact Below.heap_alloc _ _ b (by omega)
    exact ⟨mid, m1, m2, r1.move fun b x y => hb b (by omega) (by omega), r2.move fun b x y => hb b (by omega) (by omega)⟩
  refine ⟨⟨_, c4⟩, f4, by omega, by omega, ?_⟩
  have hB : Below X w3 w4 := (h.below.alloc (by omega) o).grown hg (by simp; omega) (fun k hk => by have := (h.lt hk).1; omega)
  refine ⟨hB.setCell (Nat.le_refl _) _, h.lo, by rw [World.frozen?_setCell]; exact f4, World.cell?_setCell_same' _ _ _ (by rw [c4]; rfl), ?_, ?_, ?_, ?_⟩
  · rw [ecells_app, ecells_one, List.length_append]
    exact ownsRow_setCell_below hown (by show X < X + 1; omega) _
  · intro e' he'
    rw [List.mem_append, List.mem_singleton] at he'
    have hz2 : (w4.setCell ⟨X, 0, none⟩ (.slice (some ⟨g, 0, none⟩) (E.length + 1) cap)).heap.size = w4.heap.size := by simp [World.setCell]
    rw [hz2]
    rcases he' with he' | rfl
    · obtain ⟨r, h5, h6⟩ := h.row e' he'
      exact ⟨hkeep _ _ _ _ _ _ _ _ r h6 h5 (fun k hk => h.far k hk e' he'), h5, by omega⟩
    · exact ⟨hkeep _ _ _ _ _ _ _ _ hr h2 h1 (fun k hk => .inl (h4 k hk)), h1, by omega⟩
  · rw [List.pairwise_append]
    exact ⟨h.apart, by simp, fun a ha b hb => by rw [List.mem_singleton] at hb; subst hb; exact h3 a ha⟩
  · intro k hk e' he'
    obtain rfl : g = k := by simpa [Value.ownBlock] using hk
    rw [List.mem_append, List.mem_singleton] at he'
    rcases he' with he' | rfl
    · rcases hat with hat | hat
      · exact h.far g hat e' he'
      · have := (h.row e' he').2.2; exact .inr (by omega)
    · rcases hat with hat | hat
      · exact .inl (h4 g hat)
      · exact .inr (by omega)
def e0' : Ent := ⟨l0, .slice none 0 0, .slice none 0 0, 0, 0⟩
theorem OutE.row_ {w3 wr : World} {X : Nat} {rv : Value} {E : List Ent} (h : OutE w3 wr X rv E) (hl : E.length <= 1100000) : DRow wr (X + 1) wr.heap.size rv (E.map (·.l)) := by
  obtain ⟨a, c, rfl⟩ := own_slice h.own
  have hget : ∀ (i : Nat) (e : Ent), E[i]? = some e -> E.getD i e0' = e := fun i e hi => by rw [List.getD_eq_getElem?_getD, hi]; rfl
  have hmap : ∀ (i : Nat) (l : Ls), (E.map (·.l))[i]? = some l -> ∃ e, E[i]? = some e /\ e.l = l := fun i l hi => by
    rw [List.getElem?_map] at hi
    cases he : E[i]? with
    | none => rw [he] at hi; cases hi
    | some e => rw [he] at hi; exact ⟨e, rfl, Option.some.inj hi⟩
  refine ⟨a, c, fun i => (E.getD i e0').u, fun i => (E.getD i e0').x, fun i => ((E.getD i e0').lo, (E.getD i e0').hi), by simp, by simpa using hl, fun hn => ?_, fun i l hi => ?_, fun i j hij hj => ?_⟩
  · have hlt := h.own.lt
    have hcells := fun g hg => h.own.cells (g := g) hg
    have hfz := fun g (hg : Value.ownBlock (.slice a E.length c) = some g) => h.far g hg
    obtain ⟨_, h2⟩ := h.own
    rcases h2 with ⟨e1, h3⟩ | ⟨g, cap, cur, e1, h3, h4, h5, h6, h7, h8⟩
    · simp at hn; omega
    · obtain ⟨rfl, _, rfl⟩ := Value.slice.inj e1
      have hg : (Value.slice (some ⟨g, 0, none⟩) E.length c).ownBlock = some g := rfl
      refine ⟨g, rfl, h3, (hlt g hg).2, fun o => by simp [World.frozen?, h4], fun i l hi => ?_, fun i hi => ?_⟩
      · obtain ⟨e, he, rfl⟩ := hmap i l hi
        have hc := fun j hj => hcells g hg (i * 5 + j) _ (show (ecells E)[i * 5 + j]? = some ((ecs e)[j]'hj) by rw [ecells_at E i e j he (by simpa [ecs] using hj)]; exact List.getElem?_eq_getElem _)
        have c0 := hc 0 (by simp [ecs])
        have c1 := hc 1 (by simp [ecs])
        have c2 := hc 2 (by simp [ecs])
        have c3 := hc 3 (by simp [ecs])
        have c4 := hc 4 (by simp [ecs])
        rw [add_none] at c0 c1 c2 c3 c4
        simp only [hget i e he]
        exact ⟨c0, c1, c2, c3, c4⟩
      · have hi' : i < E.length := by simpa using hi
        have he : E[i]? = some (E[i]'hi') := List.getElem?_eq_getElem _
        simp only [hget i _ he]
        exact hfz g hg _ (List.getElem_mem _)
  · obtain ⟨e, he, rfl⟩ := hmap i l hi
    simp only [hget i e he]
    obtain ⟨h1, h2, h3⟩ := h.row e (List.mem_of_getElem? he)
    exact ⟨h1, by omega, h3⟩
  · have hj' : j < E.length := by simpa using hj
    have hi' : i < E.length := by omega
    simp only [hget i _ (List.getElem?_eq_getElem hi'), hget j _ (List.getElem?_eq_getElem hj')]
    exact List.pairwise_iff_getElem.1 h.apart i j hi' hj' hij
theorem cell_five_new (w : World) (a b c d e : Value) (T : TypeId) (j : Nat) (u : Value) (h : [a, b, c, d, e][j]? = some u) : (w.alloc (.cells #[a, b, c, d, e] T)).cell? ((⟨w.heap.size, 0, none⟩ : Addr).add j) = some u := by
  rw [add_none]
  rcases j with _ | _ | _ | _ | _ | j
  · simp at h; subst h; simp
  · simp at h; subst h; simp
  · simp at h; subst h; simp
  · simp at h; subst h; simp
  · simp at h; subst h; simp
  · simp at h
theorem ecs_one (o s g : Int) (a a' : Option Addr) (n c m c' : Nat) : ∀ u ∈ [Value.int .i64 o, .int .i64 s, .int .i64 g, .slice a n c, .slice a' m c'], u.oneCell' = true := by
  intro u hu
  simp at hu
  rcases hu with rfl | rfl | rfl | rfl | rfl <;> rfl
end Go.Proofs.Ytfpafjdakipccaa
