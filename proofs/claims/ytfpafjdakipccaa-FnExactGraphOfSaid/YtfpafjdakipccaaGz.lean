/- Rows of links and stubs; what turns memory in one part alone. -/
import Derived.Test.YtfpafjdakipccaaGa
namespace Go.Proofs.Ytfpafjdakipccaa
open Go.RowKit
structure Tur (lo hi : Nat) (w w' : World) : Prop where
  os : w'.os = w.os
  tape : w'.tape = w.tape
  output : w'.output = w.output
  size : w.heap.size <= w'.heap.size
  block : ∀ b, b < w.heap.size -> b < lo ∨ hi <= b -> w'.heap[b]? = w.heap[b]?
theorem Tur.of {lo hi : Nat} {w w' : World} (h : Turned lo hi w w') : Tur lo hi w w' := by
  obtain ⟨g, he, hg⟩ := h
  refine ⟨he.1, he.2.1, he.2.2.1, he.2.2.2.1, fun b hb hd => he.2.2.2.2 b hb (by omega)⟩
theorem Tur.refl (lo hi : Nat) (w : World) : Tur lo hi w w := ⟨rfl, rfl, rfl, Nat.le_refl _, fun _ _ _ => rfl⟩
theorem Tur.trans {lo hi lo1 hi1 lo2 hi2 : Nat} {a b c : World} (h : Tur lo1 hi1 a b) (h' : Tur lo2 hi2 b c) (l1 : lo <= lo1) (l2 : lo <= lo2) (u1 : hi1 <= hi) (u2 : hi2 <= hi) : Tur lo hi a c :=
  ⟨h'.os.trans h.os, h'.tape.trans h.tape, h'.output.trans h.output, Nat.le_trans h.size h'.size, fun k hk hd => (h'.block k (Nat.lt_of_lt_of_le hk h.size) (by omega)).trans (h.block k hk (by omega))⟩
theorem Tur.cell {lo hi b o : Nat} {w w' : World} (h : Tur lo hi w w') (hb : b < w.heap.size) (hg : b < lo ∨ hi <= b) : w'.cell? ⟨b, o, none⟩ = w.cell? ⟨b, o, none⟩ := World.cell?_of_block (w := w) (a := ⟨b, o, none⟩) (h.block b hb hg)
theorem Tur.frozen {lo hi b o : Nat} {w w' : World} (h : Tur lo hi w w') (hb : b < w.heap.size) (hg : b < lo ∨ hi <= b) : w'.frozen? ⟨b, o, none⟩ = w.frozen? ⟨b, o, none⟩ := World.frozen?_of_block (w := w) (a := ⟨b, o, none⟩) (h.block b hb hg)
theorem Tur.row {k lo hi lo' hi' n : Nat} {w w' : World} {v : Value} {Z : List Int} (h : Tur lo hi w w') (hr : Row k w lo' hi' v n Z) (hh : hi' <= w.heap.size) (hd : hi' <= lo ∨ hi <= lo') : Row k w' lo' hi' v n Z := by
  obtain ⟨h0, hr⟩ := hr
  refine ⟨h0, ?_⟩
  rcases hr with hr | ⟨b, cap, rfl, h1, h2, h3, h4, h5⟩
  · exact .inl hr
  · exact .inr ⟨b, cap, rfl, h1, h2, h3, fun q z hz => by rw [h.cell (by omega) (by omega)]; exact h4 q z hz, fun o => by rw [h.frozen (by omega) (by omega)]; exact h5 o⟩
theorem Tur.below {lo hi B : Nat} {w w' : World} (h : Tur lo hi w w') (hB : B <= lo) (hw : B <= w.heap.size) : Below B w w' := ⟨h.os, h.tape, h.output, h.size, fun k hk => h.block k (by omega) (by omega)⟩
theorem Tur.of_below {lo hi : Nat} {w w' : World} (h : Below w.heap.size w w') : Tur lo hi w w' := ⟨h.os, h.tape, h.output, h.size, fun b hb _ => h.block b hb⟩
theorem Tur.boxed {lo hi : Nat} {w w' : World} {o : Obj} (h : Tur lo hi (w.alloc o) w') : Tur lo hi w w' := by
  have h0 : Tur lo hi w (w.alloc o) := .of_below ((Below.refl _ _).alloc (Nat.le_refl _) o)
  exact h0.trans h (Nat.le_refl _) (Nat.le_refl _) (Nat.le_refl _) (Nat.le_refl _)
theorem Tur.wide {lo hi lo' hi' : Nat} {w w' : World} (h : Tur lo hi w w') (l : lo' <= lo) (u : hi <= hi') : Tur lo' hi' w w' := ⟨h.os, h.tape, h.output, h.size, fun b hb hd => h.block b hb (by omega)⟩
def LRow (w : World) (lo hi : Nat) (u v : Value) (n m : Nat) (Y Z : List Int) : Prop := ∃ mid, lo <= mid /\ mid <= hi /\ Row 2 w lo mid u n Y /\ Row 3 w mid hi v m Z
theorem LRow.below {w w' : World} {B lo hi n m : Nat} {u v : Value} {Y Z : List Int} (h : LRow w lo hi u v n m Y Z) (hb : Below B w w') (hB : hi <= B) : LRow w' lo hi u v n m Y Z := by
  obtain ⟨mid, h1, h2, h3, h4⟩ := h
  exact ⟨mid, h1, h2, h3.below hb (by omega), h4.below hb hB⟩
theorem LRow.wide {w : World} {lo hi lo' hi' n m : Nat} {u v : Value} {Y Z : List Int} (h : LRow w lo hi u v n m Y Z) (hl : lo' <= lo) (hh : hi <= hi') : LRow w lo' hi' u v n m Y Z := by
  obtain ⟨mid, h1, h2, h3, h4⟩ := h
  exact ⟨mid, by omega, by omega, h3.wide hl (Nat.le_refl _), h4.wide (Nat.le_refl _) hh⟩
theorem LRow.slice {w : World} {lo hi n m : Nat} {u v : Value} {Y Z : List Int} (h : LRow w lo hi u v n m Y Z) : ∃ a c a' c', u = .slice a n c /\ v = .slice a' m c' := by
  obtain ⟨mid, h1, h2, h3, h4⟩ := h
  obtain ⟨a, c, e⟩ := h3.slice
  obtain ⟨a', c', e'⟩ := h4.slice
  exact ⟨a, c, a', c', e, e'⟩
theorem LRow.fst {w : World} {lo hi n m : Nat} {u v : Value} {Y Z : List Int} (h : LRow w lo hi u v n m Y Z) : Row 2 w lo hi u n Y := by
  obtain ⟨mid, h1, h2, h3, h4⟩ := h
  exact h3.wide (Nat.le_refl _) h2
theorem LRow.snd {w : World} {lo hi n m : Nat} {u v : Value} {Y Z : List Int} (h : LRow w lo hi u v n m Y Z) : Row 3 w lo hi v m Z := by
  obtain ⟨mid, h1, h2, h3, h4⟩ := h
  exact h4.wide h1 (Nat.le_refl _)
theorem LRow.drewN {w : World} {lo hi n m : Nat} {u v : Value} {Y Z : List Int} (h : LRow w lo hi u v n m Y Z) (q : Nat) : LRow (w.drewN q) lo hi u v n m Y Z := h
theorem LRow.alloc {w : World} {lo hi n m : Nat} {u v : Value} {Y Z : List Int} (h : LRow w lo hi u v n m Y Z) (hh : hi <= w.heap.size) (o : Obj) : LRow (w.alloc o) lo hi u v n m Y Z := h.below ((Below.refl _ _).alloc (Nat.le_refl _) o) hh
theorem LRow.setCell {w : World} {lo hi n m : Nat} {u v : Value} {Y Z : List Int} (h : LRow w lo hi u v n m Y Z) {p : Addr} (hp : p.block < lo ∨ hi <= p.block) (x : Value) : LRow (w.setCell p x) lo hi u v n m Y Z := by
  obtain ⟨mid, h1, h2, h3, h4⟩ := h
  exact ⟨mid, h1, h2, h3.setCell (by omega) x, h4.setCell (by omega) x⟩
theorem Tur.lrow {lo hi lo' hi' n m : Nat} {w w' : World} {u v : Value} {Y Z : List Int} (h : Tur lo hi w w') (hr : LRow w lo' hi' u v n m Y Z) (hh : hi' <= w.heap.size) (hd : hi' <= lo ∨ hi <= lo') : LRow w' lo' hi' u v n m Y Z := by
  obtain ⟨mid, h1, h2, h3, h4⟩ := hr
  exact ⟨mid, h1, h2, h.row h3 (by omega) (by omega), h.row h4 (by omega) (by omega)⟩
def LArg (w : World) (u v : Value) (n m : Nat) (Y Z : Nat -> Int) : Prop := Arg 2 w u n Y /\ Arg 3 w v m Z
theorem LArg.below {w w' : World} {u v : Value} {n m : Nat} {Y Z : Nat -> Int} (h : LArg w u v n m Y Z) (hb : Below w.heap.size w w') : LArg w' u v n m Y Z := ⟨h.1.below hb, h.2.below hb⟩
end Go.Proofs.Ytfpafjdakipccaa
