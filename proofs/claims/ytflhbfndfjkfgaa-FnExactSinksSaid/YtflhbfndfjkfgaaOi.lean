/- Rows of numbers that a call makes. -/
import Derived.Test.YtflhbfndfjkfgaaGa
import Derived.Maps.AppendAt
import Derived.Deep.AppendLies
import Derived.Deep.RegionLaw
import Derived.Lib.SmallJoins
namespace Go.Proofs.Ytflhbfndfjkfgaa
open Go.RowKit

def ints (Z : List Int) : List Value := Z.map fun z => .int .i64 z
theorem ints_app (Y Z : List Int) : ints (Y ++ Z) = ints Y ++ ints Z := by simp [ints]
theorem ints_len (Z : List Int) : (ints Z).length = Z.length := by simp [ints]
theorem ints_at {Z : List Int} {q : Nat} {z : Int} (h : Z[q]? = some z) : (ints Z)[q]? = some (.int .i64 z) := by simp [ints, h]
theorem ints_of {Z : List Int} {q : Nat} {u : Value} (h : (ints Z)[q]? = some u) : ∃ z, Z[q]? = some z ∧ u = .int .i64 z := by
  unfold ints at h
  rw [List.getElem?_map] at h
  cases hz : Z[q]? with
  | none => rw [hz] at h; cases h
  | some z => rw [hz] at h; exact ⟨z, rfl, (Option.some.inj h).symm⟩
theorem ints_one (Z : List Int) : ∀ u ∈ ints Z, u.oneCell' = true := by
  intro u hu
  unfold ints at hu
  obtain ⟨z, _, rfl⟩ := List.mem_map.1 hu
  rfl
theorem add_none (g j : Nat) : (⟨g, 0, none⟩ : Addr).add j = ⟨g, j, none⟩ := by unfold Addr.add; split <;> simp_all

theorem own_slice {w : World} {b0 n k : Nat} {e : TypeId} {v : Value} {xs : List Value} (h : w.ownsRow b0 e k v n xs) : ∃ a c, v = .slice a n c := by
  rcases h.2 with ⟨rfl, h2⟩ | ⟨g, cap, cur, rfl, _⟩
  · exact ⟨none, 0, by rw [h2]⟩
  · exact ⟨_, cap, rfl⟩
theorem row_of_own {w : World} {base n k : Nat} {e : TypeId} {v : Value} {Z : List Int} (h : w.ownsRow base e k v n (ints Z)) (hl : n ≤ 1100000) : Row k w base w.heap.size v n Z := by
  have hlt := h.lt
  have hcells := fun g hg => h.cells (g := g) hg
  obtain ⟨h1, h2⟩ := h
  rw [ints_len] at h1
  refine ⟨h1, ?_⟩
  rcases h2 with ⟨rfl, h3⟩ | ⟨g, cap, cur, rfl, h3, h4, h5, h6, h7, h8⟩
  · exact .inl ⟨h3, none, 0, rfl⟩
  · obtain ⟨_, hg⟩ := hlt g rfl
    refine .inr ⟨g, cap, rfl, h3, hg, hl, fun q z hz => ?_, fun o => ?_⟩
    · have c0 := hcells g rfl _ _ (ints_at hz)
      rw [add_none] at c0
      exact c0
    · simp [World.frozen?, h4]


theorem ints_at' {Z : List Int} {i : Nat} {z : Int} (h : Z[i]? = some z) : (ints Z)[i]? = some (.int .i64 z) := by simp [ints, h]
theorem ints_set (Z : List Int) (i : Nat) (z : Int) : (ints Z).set i (.int .i64 z) = ints (Z.set i z) := by simp [ints, List.map_set]
theorem ints_snoc (Z : List Int) (z : Int) : ints Z ++ [.int .i64 z] = ints (Z ++ [z]) := by simp [ints]
/-- A row of numbers of one's own: v holds Z; what was there at w is kept. -/
structure OwnI (w wr : World) (v : Value) (n : Nat) (Z : List Int) : Prop where
  below : Below w.heap.size w wr
  row : wr.ownsRow w.heap.size 3 1 v n (ints Z)
theorem OwnI.nil (w : World) : OwnI w w (.slice none 0 0) 0 [] := ⟨Below.refl _ _, World.ownsRow_nil _ _ _ _⟩
theorem OwnI.grow {w wr w2 : World} {v : Value} {n : Nat} {Z : List Int} (h : OwnI w wr v n Z) (b : Below wr.heap.size wr w2) : OwnI w w2 v n Z :=
  ⟨h.below.trans (b.mono h.below.size), h.row.kept (row := none) ⟨b.os, b.tape, b.output, b.size, fun j hj _ => b.block j hj⟩ (by cases hv : v.ownBlock <;> simp)⟩
theorem OwnI.drew {w wr : World} {v : Value} {n : Nat} {Z : List Int} (h : OwnI w wr v n Z) : OwnI w wr.drew v n Z := h.grow (Below.refl _ _).drew
theorem OwnI.app {w wr w4 : World} {v v' : Value} {n : Nat} {Z : List Int} {z : Int} (h : OwnI w wr v n Z) (hg : wr.grownBy w4 v.ownBlock) (hr : w4.ownsRow w.heap.size 3 1 v' (n + 1) (ints Z ++ [.int .i64 z])) : OwnI w w4 v' (n + 1) (Z ++ [z]) := by
  have hs := h.below.size
  have b := h.below
  refine ⟨⟨hg.os.trans b.os, hg.tape.trans b.tape, hg.output.trans b.output, Nat.le_trans hs hg.size, fun k hk => (hg.block k (by omega) (fun e => ?_)).trans (b.block k hk)⟩, by rw [← ints_snoc]; exact hr⟩
  have := (h.row.lt k e.symm).1
  omega
theorem OwnI.set {w wr : World} {g cap n : Nat} {Z : List Int} (h : OwnI w wr (.slice (some ⟨g, 0, none⟩) n cap) n Z) (j : Nat) (z : Int) : OwnI w (wr.setCell ⟨g, j, none⟩ (.int .i64 z)) (.slice (some ⟨g, 0, none⟩) n cap) n (Z.set j z) :=
  ⟨h.below.setCell (p := ⟨g, j, none⟩) (h.row.lt g rfl).1 _, by rw [← ints_set]; exact (h.row.stored j _).1⟩
theorem OwnI.at {w wr : World} {g cap n : Nat} {Z : List Int} (h : OwnI w wr (.slice (some ⟨g, 0, none⟩) n cap) n Z) {i : Nat} {z : Int} (hi : i < n) (hz : Z[i]? = some z) : wr.cell? ⟨g, i, none⟩ = some (.int .i64 z) := by
  rw [h.row.cellAt _ (by omega)]; exact ints_at' hz
theorem OwnI.frz {w wr : World} {g cap n : Nat} {Z : List Int} (h : OwnI w wr (.slice (some ⟨g, 0, none⟩) n cap) n Z) (i : Nat) : wr.frozen? ⟨g, i, none⟩ = false := h.row.frozenAt i
theorem OwnI.lt {w wr : World} {g cap n : Nat} {Z : List Int} (h : OwnI w wr (.slice (some ⟨g, 0, none⟩) n cap) n Z) : w.heap.size ≤ g ∧ g < wr.heap.size := h.row.lt g rfl
theorem OwnI.form {w wr : World} {v : Value} {n : Nat} {Z : List Int} (h : OwnI w wr v n Z) (hn : 0 < n) : ∃ g cap, v = .slice (some ⟨g, 0, none⟩) n cap := by
  obtain ⟨g, cap, e, _⟩ := h.row.form hn
  exact ⟨g, cap, e⟩
theorem OwnI.toRow {w wr : World} {v : Value} {n : Nat} {Z : List Int} (h : OwnI w wr v n Z) (hl : n ≤ 1100000) : Row 1 wr w.heap.size wr.heap.size v n Z := row_of_own h.row hl
theorem cell_one_new (w : World) (x : Value) (T : TypeId) {B : Nat} (hB : B = w.heap.size) (j : Nat) (u : Value) (h : [x][j]? = some u) : (w.alloc (.cells #[x] T)).cell? ((⟨B, 0, none⟩ : Addr).add j) = some u := by
  subst hB
  rcases j with _ | j
  · simp at h; subst h; simp [Addr.add]
  · simp at h
theorem int_one (z : Int) : ∀ u ∈ [Value.int .i64 z], u.oneCell' = true := by intro u hu; simp at hu; subst hu; rfl
theorem OwnI.lit0 (w : World) : OwnI w (w.alloc (.cells #[] 3)) (.slice (some ⟨w.heap.size, 0, none⟩) 0 0) 0 [] :=
  ⟨(Below.refl _ _).alloc (Nat.le_refl _) _, ⟨rfl, .inr ⟨_, 0, #[], rfl, Nat.le_refl _, heap_alloc_new w (.cells #[] 3), Nat.zero_le _, Nat.zero_le _, rfl, by simp [ints]⟩⟩⟩
theorem below_drewN (w : World) (k : Nat) : Below w.heap.size w (w.drewN k) := ⟨rfl, rfl, rfl, Nat.le_refl _, fun _ _ => rfl⟩
theorem OwnI.drewN {w wr : World} {v : Value} {n : Nat} {Z : List Int} (h : OwnI w wr v n Z) (k : Nat) : OwnI w (wr.drewN k) v n Z := h.grow (below_drewN wr k)

end Go.Proofs.Ytflhbfndfjkfgaa
