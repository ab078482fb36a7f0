/- Rows of bytes. -/
import Derived.Test.YtfpafjdakipccaaGz
namespace Go.Proofs.Ytfpafjdakipccaa
open Go.RowKit
def BRow (k : Nat) (w : World) (lo hi : Nat) (v : Value) (n : Nat) (Z : List Int) : Prop :=
  Z.length = n * k /\ ((n = 0 /\ ∃ a c, v = .slice a 0 c) ∨
  ∃ g cap, v = .slice (some ⟨g, 0, none⟩) n cap /\ lo <= g /\ g < hi /\ n <= 1100000 /\ (∀ q z, Z[q]? = some z -> w.cell? ⟨g, q, none⟩ = some (.int .u8 z)) /\ ∀ o, w.frozen? ⟨g, o, none⟩ = false)
theorem BRow.below {k : Nat} {w w' : World} {B lo hi n : Nat} {v : Value} {Z : List Int} (h : BRow k w lo hi v n Z) (hb : Below B w w') (hB : hi <= B) : BRow k w' lo hi v n Z := by
  obtain ⟨h0, h⟩ := h
  refine ⟨h0, ?_⟩
  rcases h with h | ⟨g, cap, rfl, h1, h2, h3, h4, h5⟩
  · exact .inl h
  · refine .inr ⟨g, cap, rfl, h1, h2, h3, fun q z hz => ?_, fun o => ?_⟩
    · rw [hb.cell (p := ⟨g, q, none⟩) (by show g < B; omega)]; exact h4 q z hz
    · rw [hb.frozen (p := ⟨g, o, none⟩) (by show g < B; omega)]; exact h5 o
theorem BRow.wide {k : Nat} {w : World} {lo hi lo' hi' n : Nat} {v : Value} {Z : List Int} (h : BRow k w lo hi v n Z) (hl : lo' <= lo) (hh : hi <= hi') : BRow k w lo' hi' v n Z := by
  obtain ⟨h0, h⟩ := h
  refine ⟨h0, ?_⟩
  rcases h with h | ⟨g, cap, rfl, h1, h2, h3, h4, h5⟩
  · exact .inl h
  · exact .inr ⟨g, cap, rfl, by omega, by omega, h3, h4, h5⟩
theorem BRow.drewN {k : Nat} {w : World} {lo hi n : Nat} {v : Value} {Z : List Int} (h : BRow k w lo hi v n Z) (q : Nat) : BRow k (w.drewN q) lo hi v n Z := h
theorem BRow.empty (k : Nat) (w : World) (lo hi : Nat) (a : Option Addr) (c : Nat) : BRow k w lo hi (.slice a 0 c) 0 [] := ⟨by simp, .inl ⟨rfl, a, c, rfl⟩⟩
theorem BRow.setCell {k : Nat} {w : World} {lo hi n : Nat} {v : Value} {Z : List Int} (h : BRow k w lo hi v n Z) {p : Addr} (hp : p.block < lo ∨ hi <= p.block) (u : Value) : BRow k (w.setCell p u) lo hi v n Z := by
  obtain ⟨h0, h⟩ := h
  refine ⟨h0, ?_⟩
  rcases h with h | ⟨b, cap, rfl, h1, h2, h3, h4, h5⟩
  · exact .inl h
  · refine .inr ⟨b, cap, rfl, h1, h2, h3, fun q z hz => ?_, fun o => ?_⟩
    · rw [World.cell?_setCell_other _ _ _ _ (by intro e; subst e; simp at hp; omega)]; exact h4 q z hz
    · rw [World.frozen?_setCell]; exact h5 o
theorem BRow.alloc {k : Nat} {w : World} {lo hi n : Nat} {v : Value} {Z : List Int} (h : BRow k w lo hi v n Z) (hh : hi <= w.heap.size) (o : Obj) : BRow k (w.alloc o) lo hi v n Z :=
  h.below ((Below.refl _ _).alloc (Nat.le_refl _) o) hh
theorem BRow.drew {k : Nat} {w : World} {lo hi n : Nat} {v : Value} {Z : List Int} (h : BRow k w lo hi v n Z) : BRow k w.drew lo hi v n Z := h
theorem BRow.slice {k : Nat} {w : World} {lo hi n : Nat} {v : Value} {Z : List Int} (h : BRow k w lo hi v n Z) : ∃ a c, v = .slice a n c := by
  rcases h.2 with ⟨rfl, a, c, rfl⟩ | ⟨g, cap, rfl, _⟩
  · exact ⟨a, c, rfl⟩
  · exact ⟨_, cap, rfl⟩
theorem BRow.only {k : Nat} {w wr : World} {g lo hi n : Nat} {v : Value} {Z : List Int} (h : BRow k w lo hi v n Z) (ho : Only g w wr) (hg : hi <= g ∨ g < lo) : BRow k wr lo hi v n Z := by
  obtain ⟨h0, h⟩ := h
  refine ⟨h0, ?_⟩
  rcases h with h | ⟨b, cap, rfl, h1, h2, h3, h4, h5⟩
  · exact .inl h
  · have hb := ho.2.2.2.2 b (by omega)
    refine .inr ⟨b, cap, rfl, h1, h2, h3, fun q z hz => ?_, fun o => ?_⟩
    · rw [World.cell?_of_block (w := w) (a := ⟨b, q, none⟩) hb]; exact h4 q z hz
    · rw [World.frozen?_of_block (w := w) (a := ⟨b, o, none⟩) hb]; exact h5 o
theorem BRow.else_ {k : Nat} {w wr : World} {g lo hi n : Nat} {v : Value} {Z : List Int} (h : BRow k w lo hi v n Z) (ho : Else g w wr) (hh : hi <= w.heap.size) (hg : hi <= g ∨ g < lo) : BRow k wr lo hi v n Z := by
  obtain ⟨h0, h⟩ := h
  refine ⟨h0, ?_⟩
  rcases h with h | ⟨b, cap, rfl, h1, h2, h3, h4, h5⟩
  · exact .inl h
  · have hb := ho.2.2.2.2 b (by omega) (by omega)
    refine .inr ⟨b, cap, rfl, h1, h2, h3, fun q z hz => ?_, fun o => ?_⟩
    · rw [World.cell?_of_block (w := w) (a := ⟨b, q, none⟩) hb]; exact h4 q z hz
    · rw [World.frozen?_of_block (w := w) (a := ⟨b, o, none⟩) hb]; exact h5 o
def bmarks (m : Int) (q : Nat) : List Int := (List.range q).map fun (j : Nat) => (m + (j : Int)) % 256
def BMarked (w wr : World) (g : Nat) (Z : List Int) (m : Int) (q : Nat) : Prop :=
  Only g w wr /\ (∀ o, wr.frozen? ⟨g, o, none⟩ = false) /\
  (∀ j, j < q -> wr.cell? ⟨g, j, none⟩ = some (.int .u8 ((m + (j : Int)) % 256))) /\
  (∀ j z, q <= j -> Z[j]? = some z -> wr.cell? ⟨g, j, none⟩ = some (.int .u8 z))
theorem BMarked.one {w wr : World} {g : Nat} {Z : List Int} {m : Int} {q : Nat} {z u : Int} (h : BMarked w wr g Z m q) (hz : Z[q]? = some z) (hu : u = (m + (q : Int)) % 256) :
    BMarked w (wr.setCell ⟨g, q, none⟩ (.int .u8 u)) g Z m (q + 1) := by
  subst hu
  obtain ⟨h1, h2, h3, h4⟩ := h
  refine ⟨h1.setCell _ _, fun o => by simp [h2], fun j hj => ?_, fun j z' hj hz' => ?_⟩
  · by_cases e : j = q
    · subst e
      exact World.cell?_setCell_same' _ _ _ (by rw [h4 j z (Nat.le_refl _) hz]; rfl)
    · rw [World.cell?_setCell_other _ _ _ _ (by simp <;> omega)]
      exact h3 j (by omega)
  · rw [World.cell?_setCell_other _ _ _ _ (by simp <;> omega)]
    exact h4 j z' (by omega) hz'
def BFill (w wr : World) (g N q : Nat) (F : Nat -> Int) : Prop :=
  Below w.heap.size w wr /\ w.heap.size <= g /\ g < wr.heap.size /\ (∀ o, wr.frozen? ⟨g, o, none⟩ = false) /\ (∀ j, j < q -> wr.cell? ⟨g, j, none⟩ = some (.int .u8 (F j))) /\ ∀ j, j < N -> ∃ u, wr.cell? ⟨g, j, none⟩ = some u
theorem BFill.below {w wr w2 : World} {g N q : Nat} {F : Nat -> Int} (h : BFill w wr g N q F) (hb : Below wr.heap.size wr w2) : BFill w w2 g N q F := by
  obtain ⟨h1, h2, h3, h4, h5, h6⟩ := h
  have hs := hb.size
  refine ⟨chain h1 hb, h2, by omega, fun o => by rw [hb.frozen (p := ⟨g, o, none⟩) h3]; exact h4 o, fun j hj => by rw [hb.cell (p := ⟨g, j, none⟩) h3]; exact h5 j hj, fun j hj => ?_⟩
  rw [hb.cell (p := ⟨g, j, none⟩) h3]; exact h6 j hj
theorem BFill.one {w wr : World} {g N q : Nat} {F : Nat -> Int} {u : Int} (h : BFill w wr g N q F) (hq : q < N) (hu : u = F q) : BFill w (wr.setCell ⟨g, q, none⟩ (.int .u8 u)) g N (q + 1) F := by
  subst hu
  obtain ⟨h1, h2, h3, h4, h5, h6⟩ := h
  have hin : ∀ j, j < N -> ∃ u, (wr.setCell ⟨g, q, none⟩ (.int .u8 (F q))).cell? ⟨g, j, none⟩ = some u := fun j hj => by
    by_cases e : j = q
    · subst e; obtain ⟨u, hu⟩ := h6 j hj; exact ⟨_, World.cell?_setCell_same' _ _ _ (by rw [hu]; rfl)⟩
    · rw [World.cell?_setCell_other _ _ _ _ (by simp <;> omega)]; exact h6 j hj
  refine ⟨h1.setCell h2 _, h2, by simpa [World.setCell] using h3, fun o => by simp [h4], fun j hj => ?_, hin⟩
  by_cases e : j = q
  · subst e; obtain ⟨u, hu⟩ := h6 j hq; exact World.cell?_setCell_same' _ _ _ (by rw [hu]; rfl)
  · rw [World.cell?_setCell_other _ _ _ _ (by simp <;> omega)]; exact h5 j (by omega)
theorem BFill.row {w wr : World} {k n cap : Nat} {g : Nat} {F : Nat -> Int} (h : BFill w wr g (n * k) (n * k) F) (hn : n <= 1100000) : BRow k wr w.heap.size wr.heap.size (.slice (some ⟨g, 0, none⟩) n cap) n ((List.range (n * k)).map F) := by
  obtain ⟨h1, h2, h3, h4, h5, h6⟩ := h
  refine ⟨by simp, .inr ⟨g, cap, rfl, h2, h3, hn, fun q z hz => ?_, h4⟩⟩
  have hq : q < n * k := by have := (List.getElem?_eq_some_iff.1 hz).1; simpa using this
  rw [List.getElem?_map, List.getElem?_range hq] at hz
  obtain rfl := Option.some.inj hz
  exact h5 q hq
theorem BFill.start {w w1 : World} {e : TypeId} {size n cap : Nat} {F : Nat -> Int} {xs : List Value} (h : w1.ownsRow w.heap.size e size (.slice (some ⟨w.heap.size, 0, none⟩) n cap) n xs) (hg : w.grownBy w1 none) : BFill w w1 w.heap.size (n * size) 0 F := by
  refine ⟨(Below.refl _ _).grown hg (Nat.le_refl _) (fun k hk => by cases hk), Nat.le_refl _, (h.lt w.heap.size rfl).2, fun o => h.frozenAt o, fun j hj => absurd hj (Nat.not_lt_zero _), fun j hj => ?_⟩
  have hl : j < xs.length := by rw [h.1]; exact hj
  exact ⟨xs[j], by rw [h.cellAt j hj]; exact List.getElem?_eq_getElem hl⟩
def Byt (z : Int) : Prop := 0 <= z /\ z <= 255
def byteTy (P : Program) (t : TypeId) : Bool := match P.underlying t with
  | some (.int .u8) => true
  | _ => false
section
variable {H : Type} {enc : TypeId × Value -> H} {P : Program} {w : World} {base : Nat} {spare : Nat -> Bool} {held : Bool}
def BArg (w : World) (v : Value) (n : Nat) (Z : Nat -> Int) : Prop :=
  (∀ q, q < n -> Byt (Z q)) /\ n <= maxLen /\ ((n = 0 /\ ∃ a c, v = .slice a 0 c) ∨
  ∃ b off cap, v = .slice (some ⟨b, off, none⟩) n cap /\ b < w.heap.size /\ ∀ q, q < n -> w.cell? ⟨b, off + q, none⟩ = some (.int .u8 (Z q)))
end
theorem BArg.below {w w' : World} {v : Value} {n : Nat} {Z : Nat -> Int} (h : BArg w v n Z) (hb : Below w.heap.size w w') : BArg w' v n Z := by
  obtain ⟨h0, h1, h⟩ := h
  refine ⟨h0, h1, ?_⟩
  rcases h with h | ⟨b, off, cap, rfl, hlt, hc⟩
  · exact .inl h
  · have := hb.size
    exact .inr ⟨b, off, cap, rfl, by omega, fun q hq => by rw [hb.cell (p := ⟨b, off + q, none⟩) hlt]; exact hc q hq⟩
theorem BArg.slice {w : World} {v : Value} {n : Nat} {Z : Nat -> Int} (h : BArg w v n Z) : ∃ a c, v = .slice a n c := by
  rcases h.2.2 with ⟨rfl, a, c, rfl⟩ | ⟨g, off, cap, rfl, _⟩
  · exact ⟨a, c, rfl⟩
  · exact ⟨_, cap, rfl⟩
end Go.Proofs.Ytfpafjdakipccaa
