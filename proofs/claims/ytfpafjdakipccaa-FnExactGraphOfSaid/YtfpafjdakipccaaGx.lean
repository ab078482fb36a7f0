/- Cells of new boxes; rows that a call makes. -/
import Derived.Test.YtfpafjdakipccaaGb
import Derived.Lib.SmallJoins
import Derived.Maps.AppendAt
import Derived.Deep.AppendLies
import Derived.Deep.RegionLaw
import Derived.OwnWalk
namespace Go.Proofs.Ytfpafjdakipccaa
open Go.RowKit
theorem new_at {w : World} {b o : Nat} {cs : Array Value} {t : TypeId} (h : b = w.heap.size) : (w.alloc (.cells cs t)).cell? ⟨b, o, none⟩ = cs[o]? := by subst h; exact cell_of_row _ _ _ _ _ _ (heap_alloc_new _ _)
theorem new_frz {w : World} {b o : Nat} {cs : Array Value} {t : TypeId} (h : b = w.heap.size) : (w.alloc (.cells cs t)).frozen? ⟨b, o, none⟩ = false := by subst h; exact frozen_of_row _ _ _ _ _ (heap_alloc_new _ _)
theorem old_frz {w : World} {b o : Nat} {x : Obj} (h : b < w.heap.size) : (w.alloc x).frozen? ⟨b, o, none⟩ = w.frozen? ⟨b, o, none⟩ := ((Below.refl w.heap.size w).alloc (Nat.le_refl _) x).frozen (p := ⟨b, o, none⟩) h
def ints (Z : List Int) : List Value := Z.map fun z => .int .i64 z
theorem ints_app (Y Z : List Int) : ints (Y ++ Z) = ints Y ++ ints Z := by simp [ints]
theorem ints_len (Z : List Int) : (ints Z).length = Z.length := by simp [ints]
theorem ints_at {Z : List Int} {q : Nat} {z : Int} (h : Z[q]? = some z) : (ints Z)[q]? = some (.int .i64 z) := by simp [ints, h]
theorem ints_of {Z : List Int} {q : Nat} {u : Value} (h : (ints Z)[q]? = some u) : ∃ z, Z[q]? = some z /\ u = .int .i64 z := by
  unfold ints at h
  rw [List.getElem?_map] at h
  cases hz : Z[q]? with
  | none => rw [hz] at h; cases h
  | some z => rw [hz] at h; exact ⟨z, rfl, (Option.some.inj h).symm⟩
theorem ints_one (Z : List Int) : ∀ u ∈ ints Z, u.oneCell' = true := by
  intro u hu
  unfold ints at hu
  obtain ⟨z, _, rfl⟩ := List.mem_map.1 hu
  rfl
theorem add_none (g j : Nat) : (⟨g, 0, none⟩ : Addr).add j = ⟨g, j, none⟩ := by unfold Addr.add; split <;> simp_all
theorem own_slice {w : World} {b0 n k : Nat} {e : TypeId} {v : Value} {xs : List Value} (h : w.ownsRow b0 e k v n xs) : ∃ a c, v = .slice a n c := by
  rcases h.2 with ⟨rfl, h2⟩ | ⟨g, cap, cur, rfl, _⟩
  · exact ⟨none, 0, by rw [h2]⟩
  · exact ⟨_, cap, rfl⟩
theorem row_of_own {w : World} {base n k : Nat} {e : TypeId} {v : Value} {Z : List Int} (h : w.ownsRow base e k v n (ints Z)) (hl : n <= 1100000) : Row k w base w.heap.size v n Z := by
  have hlt := h.lt
  have hcells := fun g hg => h.cells (g := g) hg
  obtain ⟨h1, h2⟩ := h
  rw [ints_len] at h1
  refine ⟨h1, ?_⟩
  rcases h2 with ⟨rfl, h3⟩ | ⟨g, cap, cur, rfl, h3, h4, h5, h6, h7, h8⟩
  · exact .inl ⟨h3, none, 0, rfl⟩
  · obtain ⟨_, hg⟩ := hlt g rfl
    refine .inr ⟨g, cap, rfl, h3, hg, hl, fun q z hz => ?_, fun o => ?_⟩
    · have c0 := hcells g rfl _ _ (ints_at hz)
      rw [add_none] at c0
      exact c0
    · simp [World.frozen?, h4]
theorem below_drewN (w : World) (k : Nat) : Below w.heap.size w (w.drewN k) := ⟨rfl, rfl, rfl, Nat.le_refl _, fun _ _ => rfl⟩
structure Own (E : TypeId) (k : Nat) (w wr : World) (v : Value) (n : Nat) (X : List Value) : Prop where
  below : Below w.heap.size w wr
  row : wr.ownsRow w.heap.size E k v n X
section
variable {E : TypeId} {k : Nat} {w wr w2 w4 : World} {v v' : Value} {n : Nat} {X Y : List Value}
theorem Own.nil (E : TypeId) (k : Nat) (w : World) : Own E k w w (.slice none 0 0) 0 [] := ⟨Below.refl _ _, World.ownsRow_nil _ _ _ _⟩
theorem Own.grow (h : Own E k w wr v n X) (b : Below wr.heap.size wr w2) : Own E k w w2 v n X :=
  ⟨h.below.trans (b.mono h.below.size), h.row.kept (row := none) ⟨b.os, b.tape, b.output, b.size, fun j hj _ => b.block j hj⟩ (by cases hv : v.ownBlock <;> simp)⟩
theorem Own.drew (h : Own E k w wr v n X) : Own E k w wr.drew v n X := h.grow (Below.refl _ _).drew
theorem Own.drewN (h : Own E k w wr v n X) (q : Nat) : Own E k w (wr.drewN q) v n X := h.grow (below_drewN wr q)
theorem Own.alloc (h : Own E k w wr v n X) (o : Obj) : Own E k w (wr.alloc o) v n X := h.grow ((Below.refl _ _).alloc (Nat.le_refl _) o)
theorem Own.app (h : Own E k w wr v n X) {m : Nat} (hg : wr.grownBy w4 v.ownBlock) (hr : w4.ownsRow w.heap.size E k v' m (X ++ Y)) : Own E k w w4 v' m (X ++ Y) := by
  have hs := h.below.size
  have b := h.below
  refine ⟨⟨hg.os.trans b.os, hg.tape.trans b.tape, hg.output.trans b.output, Nat.le_trans hs hg.size, fun q hk => (hg.block q (by omega) (fun e => ?_)).trans (b.block q hk)⟩, hr⟩
  have := (h.row.lt q e.symm).1
  omega
theorem Own.slice (h : Own E k w wr v n X) : ∃ a c, v = .slice a n c := own_slice h.row
theorem Own.size (h : Own E k w wr v n X) : w.heap.size <= wr.heap.size := h.below.size
theorem Own.base {w0 : World} (h : Own E k w wr v n X) (hb : Below w0.heap.size w0 w) : Own E k w0 wr v n X :=
  ⟨hb.trans (h.below.mono hb.size), by
    have hh := h.row
    have hs := hb.size
    refine ⟨hh.1, ?_⟩
    rcases hh.2 with h | ⟨g, cap, cur, h1, h2, h3⟩
    · exact .inl h
    · exact .inr ⟨g, cap, cur, h1, by omega, h3⟩⟩
end
def byts (Z : List Int) : List Value := Z.map fun z => .int .u8 z
theorem byts_len (Z : List Int) : (byts Z).length = Z.length := by simp [byts]
theorem byts_at {Z : List Int} {q : Nat} {z : Int} (h : Z[q]? = some z) : (byts Z)[q]? = some (.int .u8 z) := by simp [byts, h]
theorem brow_of_own {w : World} {base n : Nat} {e : TypeId} {v : Value} {Z : List Int} (h : w.ownsRow base e 1 v n (byts Z)) (hl : n <= 1100000) : BRow 1 w base w.heap.size v n Z := by
  have hlt := h.lt
  have hcells := fun g hg => h.cells (g := g) hg
  obtain ⟨h1, h2⟩ := h
  rw [byts_len] at h1
  refine ⟨h1, ?_⟩
  rcases h2 with ⟨rfl, h3⟩ | ⟨g, cap, cur, rfl, h3, h4, h5, h6, h7, h8⟩
  · exact .inl ⟨h3, none, 0, rfl⟩
  · obtain ⟨_, hg⟩ := hlt g rfl
    refine .inr ⟨g, cap, rfl, h3, hg, hl, fun q z hz => ?_, fun o => ?_⟩
    · have c0 := hcells g rfl _ _ (byts_at hz)
      rw [add_none] at c0
      exact c0
    · simp [World.frozen?, h4]
theorem Own.toBRow {E : TypeId} {w wr : World} {v : Value} {n : Nat} {Z : List Int} (h : Own E 1 w wr v n (byts Z)) (hl : n <= 1100000) : BRow 1 wr w.heap.size wr.heap.size v n Z := brow_of_own h.row hl
end Go.Proofs.Ytfpafjdakipccaa
