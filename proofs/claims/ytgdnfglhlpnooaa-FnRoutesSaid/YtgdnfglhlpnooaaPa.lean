/- Rows and tables of one's own. -/
import Derived.Test.YtgdnfglhlpnooaaL0
import Derived.Test.YtgdnfglhlpnooaaMt
import Derived.Test.YtgdnfglhlpnooaaGt
import Derived.Test.YtgdnfglhlpnooaaGo0
import Derived.Test.YtgdnfglhlpnooaaReg
import Derived.Lib.SmallJoins
import Derived.Deep.AppendLies
import Derived.Deep.RegionLaw
import Derived.Maps.AppendAt
namespace Go.Proofs.Ytgdnfglhlpnooaa
open Go.RowKit

theorem new_at {w : World} {b o : Nat} {cs : Array Value} {t : TypeId} (h : b = w.heap.size) : (w.alloc (.cells cs t)).cell? ⟨b, o, none⟩ = cs[o]? := by subst h; exact cell_of_row _ _ _ _ _ _ (heap_alloc_new _ _)
theorem new_frz {w : World} {b o : Nat} {cs : Array Value} {t : TypeId} (h : b = w.heap.size) : (w.alloc (.cells cs t)).frozen? ⟨b, o, none⟩ = false := by subst h; exact frozen_of_row _ _ _ _ _ (heap_alloc_new _ _)
theorem old_frz {w : World} {b o : Nat} {x : Obj} (h : b < w.heap.size) : (w.alloc x).frozen? ⟨b, o, none⟩ = w.frozen? ⟨b, o, none⟩ := ((Below.refl w.heap.size w).alloc (Nat.le_refl _) x).frozen (p := ⟨b, o, none⟩) h

def ints (Z : List Int) : List Value := Z.map fun z => .int .i64 z
theorem ints_app (Y Z : List Int) : ints (Y ++ Z) = ints Y ++ ints Z := by simp [ints]
theorem ints_len (Z : List Int) : (ints Z).length = Z.length := by simp [ints]
theorem ints_at {Z : List Int} {q : Nat} {z : Int} (h : Z[q]? = some z) : (ints Z)[q]? = some (.int .i64 z) := by simp [ints, h]
theorem add_none (g j : Nat) : (⟨g, 0, none⟩ : Addr).add j = ⟨g, j, none⟩ := by unfold Addr.add; split <;> simp_all
theorem own_slice {w : World} {b0 n k : Nat} {e : TypeId} {v : Value} {xs : List Value} (h : w.ownsRow b0 e k v n xs) : ∃ a c, v = .slice a n c := by
  rcases h.2 with ⟨rfl, h2⟩ | ⟨g, cap, cur, rfl, _⟩
  · exact ⟨none, 0, by rw [h2]⟩
  · exact ⟨_, cap, rfl⟩
theorem row_of_own {w : World} {base n k : Nat} {e : TypeId} {v : Value} {Z : List Int} (h : w.ownsRow base e k v n (ints Z)) (hl : n ≤ 1100000) : Row k w base w.heap.size v n Z := by
  have hlt := h.lt
  have hcells := fun g hg => h.cells (g := g) hg
  obtain ⟨h1, h2⟩ := h
  rw [ints_len] at h1
  refine ⟨h1, ?_⟩
  rcases h2 with ⟨rfl, h3⟩ | ⟨g, cap, cur, rfl, h3, h4, h5, h6, h7, h8⟩
  · exact .inl ⟨h3, none, 0, rfl⟩
  · obtain ⟨_, hg⟩ := hlt g rfl
    refine .inr ⟨g, cap, rfl, h3, hg, hl, fun q z hz => ?_, fun o => ?_⟩
    · have c0 := hcells g rfl _ _ (ints_at hz)
      rw [add_none] at c0
      exact c0
    · simp [World.frozen?, h4]
/-- A row of one's own, of elements of k integers: v holds Z; what was there at w is kept. -/
structure OwnR (T : TypeId) (k : Nat) (w wr : World) (v : Value) (n : Nat) (Z : List Int) : Prop where
  below : Below w.heap.size w wr
  row : wr.ownsRow w.heap.size T k v n (ints Z)
theorem OwnR.nil (T : TypeId) (k : Nat) (w : World) : OwnR T k w w (.slice none 0 0) 0 [] := ⟨Below.refl _ _, World.ownsRow_nil _ _ _ _⟩
theorem OwnR.grow {T : TypeId} {k : Nat} {w wr w2 : World} {v : Value} {n : Nat} {Z : List Int} (h : OwnR T k w wr v n Z) (b : Below wr.heap.size wr w2) : OwnR T k w w2 v n Z :=
  ⟨h.below.trans (b.mono h.below.size), h.row.kept (row := none) ⟨b.os, b.tape, b.output, b.size, fun j hj _ => b.block j hj⟩ (by cases hv : v.ownBlock <;> simp)⟩
theorem below_drewN (w : World) (k : Nat) : Below w.heap.size w (w.drewN k) := ⟨rfl, rfl, rfl, Nat.le_refl _, fun _ _ => rfl⟩
theorem OwnR.app {T : TypeId} {k : Nat} {w wr w4 : World} {v v' : Value} {n : Nat} {Z Z1 : List Int} (h : OwnR T k w wr v n Z) (hg : wr.grownBy w4 v.ownBlock) (hr : w4.ownsRow w.heap.size T k v' (n + 1) (ints Z ++ ints Z1)) : OwnR T k w w4 v' (n + 1) (Z ++ Z1) := by
  have hs := h.below.size
  have b := h.below
  refine ⟨⟨hg.os.trans b.os, hg.tape.trans b.tape, hg.output.trans b.output, Nat.le_trans hs hg.size, fun k hk => (hg.block k (by omega) (fun e => ?_)).trans (b.block k hk)⟩, by rw [ints_app]; exact hr⟩
  have := (h.row.lt k e.symm).1
  omega
theorem OwnR.toRow {T : TypeId} {k : Nat} {w wr : World} {v : Value} {n : Nat} {Z : List Int} (h : OwnR T k w wr v n Z) (hl : n ≤ 1100000) : Row k wr w.heap.size wr.heap.size v n Z := row_of_own h.row hl
theorem OwnR.lit0 (T : TypeId) (k : Nat) (w : World) : OwnR T k w (w.alloc (.cells #[] T)) (.slice (some ⟨w.heap.size, 0, none⟩) 0 0) 0 [] :=
  ⟨(Below.refl _ _).alloc (Nat.le_refl _) _, ⟨by simp [ints], .inr ⟨_, 0, #[], rfl, Nat.le_refl _, heap_alloc_new w (.cells #[] T), Nat.zero_le _, by simp, by simp, by simp [ints]⟩⟩⟩
theorem cells_new (w : World) (xs : List Int) (T : TypeId) {B : Nat} (hB : B = w.heap.size) (j : Nat) (u : Value) (h : (ints xs)[j]? = some u) : (w.alloc (.cells (ints xs).toArray T)).cell? ((⟨B, 0, none⟩ : Addr).add j) = some u := by
  subst hB
  rw [add_none, new_at rfl]
  simpa using h
theorem ints_one (Z : List Int) : ∀ u ∈ ints Z, u.oneCell' = true := by
  intro u hu
  unfold ints at hu
  obtain ⟨z, _, rfl⟩ := List.mem_map.1 hu
  rfl


theorem flat_one (r : Rt) : flat [r] = [r.1, r.2.1, r.2.2] := rfl
theorem take_snoc3 {L : List Rt} {k : Nat} {p : Rt} (h : L[k]? = some p) : L.take (k + 1) = L.take k ++ [p] := by
  rw [List.take_add_one, h]; rfl
theorem at_of_lt {L : List Rt} {i : Nat} (h : i < L.length) : ∃ a b c : Int, L[i]? = some (a, b, c) := ⟨(L[i]'h).1, (L[i]'h).2.1, (L[i]'h).2.2, List.getElem?_eq_getElem h⟩
theorem Try.info43r : (Try.prog.info? 43).map (fun i => (i.zero, i.size, i.bytes)) = some (some (.agg #[.int .i64 0, .int .i64 0, .int .i64 0]), 3, 24) := by kernel_rfl
/-- Since w3 the routes O have been gathered; the table lies in block X. -/
def OutT (w3 wr : World) (X : Nat) (O : List Rt) : Prop :=
  Below X w3 wr ∧ X < w3.heap.size ∧ wr.frozen? ⟨X, 0, none⟩ = false ∧ ∃ rv, wr.cell? ⟨X, 0, none⟩ = some rv ∧ wr.ownsRow (X + 1) 43 3 rv O.length (ints (flat O))
theorem OutT.start {w3 : World} {X : Nat} (hX : X < w3.heap.size) (hf : w3.frozen? ⟨X, 0, none⟩ = false) (hc : w3.cell? ⟨X, 0, none⟩ = some (.slice none 0 0)) : OutT w3 w3 X [] :=
  ⟨Below.refl _ _, hX, hf, _, hc, by simp [flat, ints], .inl ⟨rfl, rfl⟩⟩
theorem OutT.size {w3 wr : World} {X : Nat} {O : List Rt} (h : OutT w3 wr X O) : X < wr.heap.size := Nat.lt_of_lt_of_le h.2.1 h.1.size
theorem OutT.below {w3 wr w4 : World} {X : Nat} {O : List Rt} (h : OutT w3 wr X O) (hb : Below wr.heap.size wr w4) : OutT w3 w4 X O := by
  have hs := h.size
  obtain ⟨h1, h2, h3, rv, h5, h6⟩ := h
  refine ⟨h1.trans (hb.mono (by omega)), h2, by rw [hb.frozen (p := ⟨X, 0, none⟩) hs]; exact h3, rv, by rw [hb.cell (p := ⟨X, 0, none⟩) hs]; exact h5, ?_⟩
  exact h6.kept (row := none) ⟨hb.os, hb.tape, hb.output, hb.size, fun j hj _ => hb.block j hj⟩ (by cases hv : rv.ownBlock <;> simp)
theorem OutT.app {w3 wr w4 : World} {X : Nat} {O : List Rt} {v v' : Value} {o : Obj} {n : Nat} {a b c : Int} (h : OutT w3 wr X O) (hown : wr.ownsRow (X + 1) 43 3 v O.length (ints (flat O))) (hg : (wr.alloc o).grownBy w4 v.ownBlock) (hn : n = O.length + 1)
    (hown4 : w4.ownsRow (X + 1) 43 3 v' n (ints (flat O) ++ ints [a, b, c])) : (∃ u, w4.cell? ⟨X, 0, none⟩ = some u) ∧ w4.frozen? ⟨X, 0, none⟩ = false ∧ OutT w3 (w4.setCell ⟨X, 0, none⟩ v') X (O ++ [(a, b, c)]) := by
  subst hn
  have hs := h.size
  have hne : some X ≠ v.ownBlock := fun e => by have := (hown.lt X e.symm).1; omega
  have hlt : X < (wr.alloc o).heap.size := by simp; omega
  obtain ⟨h1, h2, h3, rv, h4, _⟩ := h
  have c4 : w4.cell? ⟨X, 0, none⟩ = some rv := by rw [hg.cell_far ⟨X, 0, none⟩ hlt hne, old_box hs]; exact h4
  have f4 : w4.frozen? ⟨X, 0, none⟩ = false := by rw [hg.frozen_far ⟨X, 0, none⟩ hlt hne]; rw [((Below.refl wr.heap.size wr).alloc (Nat.le_refl _) o).frozen (p := ⟨X, 0, none⟩) hs]; exact h3
  refine ⟨⟨_, c4⟩, f4, ?_⟩
  have hB : Below X w3 w4 := (h1.alloc (by omega) o).grown hg (by simp; omega) (fun k hk => by have := (hown.lt k hk).1; omega)
  refine ⟨hB.setCell (Nat.le_refl _) _, h2, by rw [World.frozen?_setCell]; exact f4, v', World.cell?_setCell_same' _ _ _ (by rw [c4]; rfl), ?_⟩
  rw [flat_app, flat_one, ints_app, List.length_append]
  exact ownsRow_setCell_below hown4 (by show X < X + 1; omega) _
theorem OutT.drew {w3 wr : World} {X : Nat} {O : List Rt} (h : OutT w3 wr X O) : OutT w3 wr.drew X O := ⟨⟨h.1.os, h.1.tape, h.1.output, h.1.size, h.1.block⟩, h.2⟩
theorem OutT.drewN {w3 wr : World} {X : Nat} {O : List Rt} (h : OutT w3 wr X O) (q : Nat) : OutT w3 (wr.drewN q) X O := ⟨⟨h.1.os, h.1.tape, h.1.output, h.1.size, h.1.block⟩, h.2⟩
theorem OutT.take {w3 wr : World} {X : Nat} {O : List Rt} (h : OutT w3 wr X O) (hl : O.length ≤ 1100000) : ∃ ra rc, wr.cell? ⟨X, 0, none⟩ = some (.slice ra O.length rc) ∧ Row 3 wr (X + 1) wr.heap.size (.slice ra O.length rc) O.length (flat O) := by
  obtain ⟨_, _, _, rv, h4, h5⟩ := h
  obtain ⟨ra, rc, rfl⟩ := own_slice h5
  exact ⟨ra, rc, h4, row_of_own h5 hl⟩
/-- What a function that answers a table leaves: the table's routes L, in memory of the call's own. -/
def TabPost (L : List Rt) (w : World) (e : Ending) (w' : World) : Prop := ∃ rv, e = .returned (.agg #[rv]) ∧ Row 3 w' w.heap.size w'.heap.size rv L.length (flat L) ∧ Below w.heap.size w w'
def TabBPost (L : List Rt) (ok : Bool) (w : World) (e : Ending) (w' : World) : Prop := ∃ rv, e = .returned (.tuple #[.agg #[rv], .bool ok]) ∧ Row 3 w' w.heap.size w'.heap.size rv L.length (flat L) ∧ Below w.heap.size w w'

end Go.Proofs.Ytgdnfglhlpnooaa
