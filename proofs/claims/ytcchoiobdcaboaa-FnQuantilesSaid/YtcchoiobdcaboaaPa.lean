/- Rows of one's own. -/
import Derived.Test.YtcchoiobdcaboaaGo0
import Derived.Lib.SmallJoins
import Derived.Deep.AppendLies
import Derived.Deep.RegionLaw
import Derived.Maps.AppendAt
import Derived.Lib.AppendZeros
import Derived.Lib.AppendZerosOnto
import Derived.Test.YtcchoiobdcaboaaProg
namespace Go.Proofs.Ytcchoiobdcaboaa
open Go.RowKit


theorem new_at {w : World} {b o : Nat} {cs : Array Value} {t : TypeId} (h : b = w.heap.size) : (w.alloc (.cells cs t)).cell? ⟨b, o, none⟩ = cs[o]? := by subst h; exact cell_of_row _ _ _ _ _ _ (heap_alloc_new _ _)
theorem new_frz {w : World} {b o : Nat} {cs : Array Value} {t : TypeId} (h : b = w.heap.size) : (w.alloc (.cells cs t)).frozen? ⟨b, o, none⟩ = false := by subst h; exact frozen_of_row _ _ _ _ _ (heap_alloc_new _ _)
theorem old_frz {w : World} {b o : Nat} {x : Obj} (h : b < w.heap.size) : (w.alloc x).frozen? ⟨b, o, none⟩ = w.frozen? ⟨b, o, none⟩ := ((Below.refl w.heap.size w).alloc (Nat.le_refl _) x).frozen (p := ⟨b, o, none⟩) h
theorem lt_of_at {α : Type} {L : List α} {i : Nat} {r : α} (hr : L[i]? = some r) : i < L.length := by
  rcases Nat.lt_or_ge i L.length with h1 | h1
  · exact h1
  · rw [List.getElem?_eq_none h1] at hr; simp at hr
theorem take_snoc1 {l : List Int} {k : Nat} {z : Int} (h : l[k]? = some z) : l.take (k + 1) = l.take k ++ [z] := by rw [List.take_add_one, h]; rfl
def ints (Z : List Int) : List Value := Z.map fun z => .int .i64 z
theorem ints_app (Y Z : List Int) : ints (Y ++ Z) = ints Y ++ ints Z := by simp [ints]
theorem ints_len (Z : List Int) : (ints Z).length = Z.length := by simp [ints]
theorem ints_at {Z : List Int} {q : Nat} {z : Int} (h : Z[q]? = some z) : (ints Z)[q]? = some (.int .i64 z) := by simp [ints, h]
theorem add_none (g j : Nat) : (⟨g, 0, none⟩ : Addr).add j = ⟨g, j, none⟩ := by unfold Addr.add; split <;> simp_all
theorem own_slice {w : World} {b0 n k : Nat} {e : TypeId} {v : Value} {xs : List Value} (h : w.ownsRow b0 e k v n xs) : ∃ a c, v = .slice a n c := by
  rcases h.2 with ⟨rfl, h2⟩ | ⟨g, cap, cur, rfl, _⟩
  · exact ⟨none, 0, by rw [h2]⟩
  · exact ⟨_, cap, rfl⟩
theorem row_of_own {w : World} {base n k : Nat} {e : TypeId} {v : Value} {Z : List Int} (h : w.ownsRow base e k v n (ints Z)) (hl : n ≤ 1100000) : Row k w base w.heap.size v n Z := by
  have hlt := h.lt
  have hcells := fun g hg => h.cells (g := g) hg
  obtain ⟨h1, h2⟩ := h
  rw [ints_len] at h1
  refine ⟨h1, ?_⟩
  rcases h2 with ⟨rfl, h3⟩ | ⟨g, cap, cur, rfl, h3, h4, h5, h6, h7, h8⟩
  · exact .inl ⟨h3, none, 0, rfl⟩
  · obtain ⟨_, hg⟩ := hlt g rfl
    refine .inr ⟨g, cap, rfl, h3, hg, hl, fun q z hz => ?_, fun o => ?_⟩
    · have c0 := hcells g rfl _ _ (ints_at hz)
      rw [add_none] at c0
      exact c0
    · simp [World.frozen?, h4]
/-- A row of one's own, of elements of k integers: v holds Z; what was there at w is kept. -/
structure OwnR (T : TypeId) (k : Nat) (w wr : World) (v : Value) (n : Nat) (Z : List Int) : Prop where
  below : Below w.heap.size w wr
  row : wr.ownsRow w.heap.size T k v n (ints Z)
theorem OwnR.nil (T : TypeId) (k : Nat) (w : World) : OwnR T k w w (.slice none 0 0) 0 [] := ⟨Below.refl _ _, World.ownsRow_nil _ _ _ _⟩
theorem OwnR.grow {T : TypeId} {k : Nat} {w wr w2 : World} {v : Value} {n : Nat} {Z : List Int} (h : OwnR T k w wr v n Z) (b : Below wr.heap.size wr w2) : OwnR T k w w2 v n Z :=
  ⟨h.below.trans (b.mono h.below.size), h.row.kept (row := none) ⟨b.os, b.tape, b.output, b.size, fun j hj _ => b.block j hj⟩ (by cases hv : v.ownBlock <;> simp)⟩
theorem OwnR.app {T : TypeId} {k : Nat} {w wr w4 : World} {v v' : Value} {n : Nat} {Z Z1 : List Int} (h : OwnR T k w wr v n Z) (hg : wr.grownBy w4 v.ownBlock) (hr : w4.ownsRow w.heap.size T k v' (n + 1) (ints Z ++ ints Z1)) : OwnR T k w w4 v' (n + 1) (Z ++ Z1) := by
  have hs := h.below.size
  have b := h.below
  refine ⟨⟨hg.os.trans b.os, hg.tape.trans b.tape, hg.output.trans b.output, Nat.le_trans hs hg.size, fun k hk => (hg.block k (by omega) (fun e => ?_)).trans (b.block k hk)⟩, by rw [ints_app]; exact hr⟩
  have := (h.row.lt k e.symm).1
  omega
theorem OwnR.toRow {T : TypeId} {k : Nat} {w wr : World} {v : Value} {n : Nat} {Z : List Int} (h : OwnR T k w wr v n Z) (hl : n ≤ 1100000) : Row k wr w.heap.size wr.heap.size v n Z := row_of_own h.row hl
theorem OwnR.lit0 (T : TypeId) (k : Nat) (w : World) : OwnR T k w (w.alloc (.cells #[] T)) (.slice (some ⟨w.heap.size, 0, none⟩) 0 0) 0 [] :=
  ⟨(Below.refl _ _).alloc (Nat.le_refl _) _, ⟨by simp [ints], .inr ⟨_, 0, #[], rfl, Nat.le_refl _, heap_alloc_new w (.cells #[] T), Nat.zero_le _, by simp, by simp, by simp [ints]⟩⟩⟩
theorem cells_new (w : World) (xs : List Int) (T : TypeId) {B : Nat} (hB : B = w.heap.size) (j : Nat) (u : Value) (h : (ints xs)[j]? = some u) : (w.alloc (.cells (ints xs).toArray T)).cell? ((⟨B, 0, none⟩ : Addr).add j) = some u := by
  subst hB
  rw [add_none, new_at rfl]
  simpa using h
theorem ints_one (Z : List Int) : ∀ u ∈ ints Z, u.oneCell' = true := by
  intro u hu
  unfold ints at hu
  obtain ⟨z, _, rfl⟩ := List.mem_map.1 hu
  rfl


theorem Row.set1 {w : World} {lo hi n c g : Nat} {l : List Int} (h : Row 1 w lo hi (.slice (some ⟨g, 0, none⟩) n c) n l) {j : Nat} {z0 : Int} (hj : l[j]? = some z0) (z : Int) : Row 1 (w.setCell ⟨g, j, none⟩ (.int .i64 z)) lo hi (.slice (some ⟨g, 0, none⟩) n c) n (l.set j z) := by
  have hjl := lt_of_at hj
  obtain ⟨h0, h⟩ := h
  refine ⟨by simpa using h0, ?_⟩
  rcases h with ⟨e, _⟩ | ⟨b, cap, e, h1, h2, h3, h4, h5⟩
  · omega
  · simp only [Value.slice.injEq, Option.some.injEq] at e
    obtain ⟨e1, _, rfl⟩ := e
    obtain rfl : g = b := by simpa using e1
    refine .inr ⟨g, c, rfl, h1, h2, h3, fun q u hq => ?_, fun o => by rw [World.frozen?_setCell]; exact h5 o⟩
    by_cases e : j = q
    · subst e
      rw [List.getElem?_set_self hjl] at hq
      obtain rfl := Option.some.inj hq
      exact World.cell?_setCell_same' _ _ _ (by rw [h4 _ _ hj]; rfl)
    · rw [List.getElem?_set_ne e] at hq
      rw [World.cell?_setCell_other _ _ _ _ (by simp <;> omega)]
      exact h4 _ _ hq
theorem append_zero (w : World) (t ty : TypeId) (base : Nat) (e : TypeId) (i : TypeInfo) (size : Nat) (ht : Try.prog.underlying t = some (.slice e)) (hi : Try.prog.info? e = some i) (v : Value) (n : Nat) (xs : List Value) (hown : w.ownsRow base e size v n xs) (p : Option Addr) (c : Nat) :
    (Builtin.append_ #[t, t] ty #[v, .slice p 0 c]).run Try.prog w = .ok v w := by
  rcases hown.2 with ⟨rfl, rfl⟩ | ⟨g, cap, cur, rfl, _, _, hnc, _⟩
  · cases p <;> simp [Builtin.append_, run_underlying ht, sizeOf, typeInfo, hi, Builtin.lenOf, Builtin.firstCells, loadCells, loadCellsFrom]
  · cases p <;> simp [Builtin.append_, run_underlying ht, sizeOf, typeInfo, hi, Builtin.lenOf, Builtin.firstCells, hnc, storeCells, loadCells, loadCellsFrom]
theorem own_base {w : World} {b0 b1 n k : Nat} {e : TypeId} {v : Value} {xs : List Value} (h : w.ownsRow b1 e k v n xs) (hb : b0 ≤ b1) : w.ownsRow b0 e k v n xs := by
  obtain ⟨h1, h2⟩ := h
  refine ⟨h1, ?_⟩
  rcases h2 with h2 | ⟨g, cap, cur, h3, h4, h5⟩
  · exact .inl h2
  · exact .inr ⟨g, cap, cur, h3, by omega, h5⟩
/-- A store into an elder block keeps a row of one's own above it. -/
theorem OwnR.store {T : TypeId} {k : Nat} {w wr : World} {v : Value} {n : Nat} {Z : List Int} {R : Nat} (hB : Below w.heap.size w wr) (h : wr.ownsRow (R + 1) T k v n (ints Z)) (hR : w.heap.size ≤ R) (u : Value) : OwnR T k w (wr.setCell ⟨R, 0, none⟩ u) v n Z :=
  ⟨hB.setCell (p := ⟨R, 0, none⟩) hR u, own_base (ownsRow_setCell_below (a := ⟨R, 0, none⟩) h (by show R < R + 1; omega) u) (by omega)⟩

end Go.Proofs.Ytcchoiobdcaboaa
