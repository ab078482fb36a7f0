/- Graphs that are gathered edge by edge. -/
import Derived.Test.YtjenjdhoblcohaaW6
import Derived.Maps.AppendAt
import Derived.Deep.AppendLies
import Derived.Deep.RegionLaw
namespace Go.Proofs.Ytjenjdhoblcohaa
open Go.RowKit

def ints (Z : List Int) : List Value := Z.map fun z => .int .i64 z
theorem ints_app (Y Z : List Int) : ints (Y ++ Z) = ints Y ++ ints Z := by simp [ints]
theorem ints_len (Z : List Int) : (ints Z).length = Z.length := by simp [ints]
theorem ints_at {Z : List Int} {q : Nat} {z : Int} (h : Z[q]? = some z) : (ints Z)[q]? = some (.int .i64 z) := by simp [ints, h]
theorem ints_of {Z : List Int} {q : Nat} {u : Value} (h : (ints Z)[q]? = some u) : ∃ z, Z[q]? = some z ∧ u = .int .i64 z := by
  unfold ints at h
  rw [List.getElem?_map] at h
  cases hz : Z[q]? with
  | none => rw [hz] at h; cases h
  | some z => rw [hz] at h; exact ⟨z, rfl, (Option.some.inj h).symm⟩
theorem ints_one (Z : List Int) : ∀ u ∈ ints Z, u.oneCell' = true := by
  intro u hu
  unfold ints at hu
  obtain ⟨z, _, rfl⟩ := List.mem_map.1 hu
  rfl
theorem add_none (g j : Nat) : (⟨g, 0, none⟩ : Addr).add j = ⟨g, j, none⟩ := by unfold Addr.add; split <;> simp_all

theorem own_slice {w : World} {b0 n k : Nat} {e : TypeId} {v : Value} {xs : List Value} (h : w.ownsRow b0 e k v n xs) : ∃ a c, v = .slice a n c := by
  rcases h.2 with ⟨rfl, h2⟩ | ⟨g, cap, cur, rfl, _⟩
  · exact ⟨none, 0, by rw [h2]⟩
  · exact ⟨_, cap, rfl⟩
theorem row_of_own {w : World} {base n k : Nat} {e : TypeId} {v : Value} {Z : List Int} (h : w.ownsRow base e k v n (ints Z)) (hl : n ≤ 1100000) : Row k w base w.heap.size v n Z := by
  have hlt := h.lt
  have hcells := fun g hg => h.cells (g := g) hg
  obtain ⟨h1, h2⟩ := h
  rw [ints_len] at h1
  refine ⟨h1, ?_⟩
  rcases h2 with ⟨rfl, h3⟩ | ⟨g, cap, cur, rfl, h3, h4, h5, h6, h7, h8⟩
  · exact .inl ⟨h3, none, 0, rfl⟩
  · obtain ⟨_, hg⟩ := hlt g rfl
    refine .inr ⟨g, cap, rfl, h3, hg, hl, fun q z hz => ?_, fun o => ?_⟩
    · have c0 := hcells g rfl _ _ (ints_at hz)
      rw [add_none] at c0
      exact c0
    · simp [World.frozen?, h4]


theorem flat_one (r : Ed) : flat [r] = [r.1, r.2.1, r.2.2] := rfl
/-- Since w3 the edges O have been gathered; the graph lies in block X, two cells. -/
def OutG (w3 wr : World) (X : Nat) (N : Int) (O : List Ed) : Prop :=
  Below X w3 wr ∧ X < w3.heap.size ∧ wr.frozen? ⟨X, 1, none⟩ = false ∧ wr.cell? ⟨X, 0, none⟩ = some (.int .i64 N) ∧ ∃ rv, wr.cell? ⟨X, 1, none⟩ = some rv ∧ wr.ownsRow (X + 1) 96 3 rv O.length (ints (flat O))
theorem OutG.start {w3 : World} {X : Nat} {N : Int} (hX : X < w3.heap.size) (hf : w3.frozen? ⟨X, 1, none⟩ = false) (h0 : w3.cell? ⟨X, 0, none⟩ = some (.int .i64 N)) (hc : w3.cell? ⟨X, 1, none⟩ = some (.slice none 0 0)) : OutG w3 w3 X N [] :=
  ⟨Below.refl _ _, hX, hf, h0, _, hc, by simp [flat, ints], .inl ⟨rfl, rfl⟩⟩
theorem OutG.size {w3 wr : World} {X : Nat} {N : Int} {O : List Ed} (h : OutG w3 wr X N O) : X < wr.heap.size := Nat.lt_of_lt_of_le h.2.1 h.1.size
theorem OutG.below {w3 wr w4 : World} {X : Nat} {N : Int} {O : List Ed} (h : OutG w3 wr X N O) (hb : Below wr.heap.size wr w4) : OutG w3 w4 X N O := by
  have hs := h.size
  obtain ⟨h1, h2, h3, h4, rv, h5, h6⟩ := h
  refine ⟨h1.trans (hb.mono (by omega)), h2, by rw [hb.frozen (p := ⟨X, 1, none⟩) hs]; exact h3, by rw [hb.cell (p := ⟨X, 0, none⟩) hs]; exact h4, rv, by rw [hb.cell (p := ⟨X, 1, none⟩) hs]; exact h5, ?_⟩
  exact h6.kept (row := none) ⟨hb.os, hb.tape, hb.output, hb.size, fun j hj _ => hb.block j hj⟩ (by cases hv : rv.ownBlock <;> simp)
theorem OutG.app {w3 wr w4 : World} {X : Nat} {N : Int} {O : List Ed} {v v' : Value} {o : Obj} {n : Nat} {a b c : Int} (h : OutG w3 wr X N O) (hown : wr.ownsRow (X + 1) 96 3 v O.length (ints (flat O))) (hg : (wr.alloc o).grownBy w4 v.ownBlock) (hn : n = O.length + 1)
    (hown4 : w4.ownsRow (X + 1) 96 3 v' n (ints (flat O) ++ [.int .i64 a, .int .i64 b, .int .i64 c])) : (∃ u, w4.cell? ⟨X, 1, none⟩ = some u) ∧ w4.frozen? ⟨X, 1, none⟩ = false ∧ OutG w3 (w4.setCell ⟨X, 1, none⟩ v') X N (O ++ [(a, b, c)]) := by
  subst hn
  have hs := h.size
  have hne : some X ≠ v.ownBlock := fun e => by have := (hown.lt X e.symm).1; omega
  have hlt : X < (wr.alloc o).heap.size := by simp; omega
  obtain ⟨h1, h2, h3, h0, rv, h4, _⟩ := h
  have c4 : w4.cell? ⟨X, 1, none⟩ = some rv := by rw [hg.cell_far ⟨X, 1, none⟩ hlt hne, old_box hs]; exact h4
  have c0 : w4.cell? ⟨X, 0, none⟩ = some (.int .i64 N) := by rw [hg.cell_far ⟨X, 0, none⟩ hlt hne, old_box hs]; exact h0
  have f4 : w4.frozen? ⟨X, 1, none⟩ = false := by rw [hg.frozen_far ⟨X, 1, none⟩ hlt hne]; rw [((Below.refl wr.heap.size wr).alloc (Nat.le_refl _) o).frozen (p := ⟨X, 1, none⟩) hs]; exact h3
  refine ⟨⟨_, c4⟩, f4, ?_⟩
  have hB : Below X w3 w4 := (h1.alloc (by omega) o).grown hg (by simp; omega) (fun k hk => by have := (hown.lt k hk).1; omega)
  refine ⟨hB.setCell (Nat.le_refl _) _, h2, by rw [World.frozen?_setCell]; exact f4, by rw [World.cell?_setCell_other _ _ _ _ (by simp)]; exact c0, v', World.cell?_setCell_same' _ _ _ (by rw [c4]; rfl), ?_⟩
  rw [flat_app, flat_one, ints_app, List.length_append]
  exact ownsRow_setCell_below hown4 (by show X < X + 1; omega) _
theorem OutG.drew {w3 wr : World} {X : Nat} {N : Int} {O : List Ed} (h : OutG w3 wr X N O) : OutG w3 wr.drew X N O := ⟨⟨h.1.os, h.1.tape, h.1.output, h.1.size, h.1.block⟩, h.2⟩
theorem OutG.drewN {w3 wr : World} {X : Nat} {N : Int} {O : List Ed} (h : OutG w3 wr X N O) (q : Nat) : OutG w3 (wr.drewN q) X N O := ⟨⟨h.1.os, h.1.tape, h.1.output, h.1.size, h.1.block⟩, h.2⟩
theorem cell_three_new (w : World) (x y z : Value) (T : TypeId) (j : Nat) (u : Value) (h : [x, y, z][j]? = some u) : (w.alloc (.cells #[x, y, z] T)).cell? ((⟨w.heap.size, 0, none⟩ : Addr).add j) = some u := by
  rw [add_none]
  rcases j with _ | _ | _ | j
  · simp at h; subst h; simp
  · simp at h; subst h; simp
  · simp at h; subst h; simp
  · simp at h
theorem three_one (x y z : Int) : ∀ u ∈ [Value.int .i64 x, Value.int .i64 y, Value.int .i64 z], u.oneCell' = true := by
  intro u hu
  simp at hu
  rcases hu with rfl | rfl | rfl <;> rfl
/-- The edges whose reverse edge exists. -/
def bwP (L : List Ed) (e : Ed) : Bool := decide (cst L e.2.1 e.1 < 1000000)
theorem filter_snoc {P : Ed → Bool} {L : List Ed} {k : Nat} {p : Ed} (h : L[k]? = some p) : (L.take (k + 1)).filter P = (L.take k).filter P ++ if P p then [p] else [] := by
  rw [take_snoc3 h, List.filter_append]
  cases hp : P p <;> simp [hp]
theorem filter_len (P : Ed → Bool) (L : List Ed) (k : Nat) : ((L.take k).filter P).length ≤ k := Nat.le_trans (List.length_filter_le _ _) (by rw [List.length_take]; exact Nat.min_le_left _ _)

end Go.Proofs.Ytjenjdhoblcohaa
