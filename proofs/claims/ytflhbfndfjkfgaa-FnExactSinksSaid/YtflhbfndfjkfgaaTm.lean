/- Slices of tables. -/
import Derived.Test.YtflhbfndfjkfgaaMt
import Derived.Test.YtflhbfndfjkfgaaGa
namespace Go.Proofs.Ytflhbfndfjkfgaa
open Go.RowKit


/-- Of the old blocks none has turned but such as lie from lo on and below hi. -/
structure Tur (lo hi : Nat) (w w' : World) : Prop where
  os : w'.os = w.os
  tape : w'.tape = w.tape
  output : w'.output = w.output
  size : w.heap.size ≤ w'.heap.size
  block : ∀ b, b < w.heap.size → b < lo ∨ hi ≤ b → w'.heap[b]? = w.heap[b]?
theorem Tur.of {lo hi : Nat} {w w' : World} (h : Turned lo hi w w') : Tur lo hi w w' := by
  obtain ⟨g, he, hg⟩ := h
  refine ⟨he.1, he.2.1, he.2.2.1, he.2.2.2.1, fun b hb hd => he.2.2.2.2 b hb (by omega)⟩
theorem Tur.refl (lo hi : Nat) (w : World) : Tur lo hi w w := ⟨rfl, rfl, rfl, Nat.le_refl _, fun _ _ _ => rfl⟩
theorem Tur.trans {lo hi lo1 hi1 lo2 hi2 : Nat} {a b c : World} (h : Tur lo1 hi1 a b) (h' : Tur lo2 hi2 b c) (l1 : lo ≤ lo1) (l2 : lo ≤ lo2) (u1 : hi1 ≤ hi) (u2 : hi2 ≤ hi) : Tur lo hi a c :=
  ⟨h'.os.trans h.os, h'.tape.trans h.tape, h'.output.trans h.output, Nat.le_trans h.size h'.size, fun k hk hd => (h'.block k (Nat.lt_of_lt_of_le hk h.size) (by omega)).trans (h.block k hk (by omega))⟩
theorem Tur.cell {lo hi b o : Nat} {w w' : World} (h : Tur lo hi w w') (hb : b < w.heap.size) (hg : b < lo ∨ hi ≤ b) : w'.cell? ⟨b, o, none⟩ = w.cell? ⟨b, o, none⟩ := World.cell?_of_block (w := w) (a := ⟨b, o, none⟩) (h.block b hb hg)
theorem Tur.frozen {lo hi b o : Nat} {w w' : World} (h : Tur lo hi w w') (hb : b < w.heap.size) (hg : b < lo ∨ hi ≤ b) : w'.frozen? ⟨b, o, none⟩ = w.frozen? ⟨b, o, none⟩ := World.frozen?_of_block (w := w) (a := ⟨b, o, none⟩) (h.block b hb hg)
theorem Tur.row {k lo hi lo' hi' n : Nat} {w w' : World} {v : Value} {Z : List Int} (h : Tur lo hi w w') (hr : Row k w lo' hi' v n Z) (hh : hi' ≤ w.heap.size) (hd : hi' ≤ lo ∨ hi ≤ lo') : Row k w' lo' hi' v n Z := by
  obtain ⟨h0, hr⟩ := hr
  refine ⟨h0, ?_⟩
  rcases hr with hr | ⟨b, cap, rfl, h1, h2, h3, h4, h5⟩
  · exact .inl hr
  · exact .inr ⟨b, cap, rfl, h1, h2, h3, fun q z hz => by rw [h.cell (by omega) (by omega)]; exact h4 q z hz, fun o => by rw [h.frozen (by omega) (by omega)]; exact h5 o⟩
theorem Tur.below {lo hi B : Nat} {w w' : World} (h : Tur lo hi w w') (hB : B ≤ lo) (hw : B ≤ w.heap.size) : Below B w w' := ⟨h.os, h.tape, h.output, h.size, fun k hk => h.block k (by omega) (by omega)⟩
theorem Row.move {k : Nat} {w w' : World} {lo hi n : Nat} {v : Value} {Z : List Int} (h : Row k w lo hi v n Z) (hk : ∀ b, lo ≤ b → b < hi → w'.heap[b]? = w.heap[b]?) : Row k w' lo hi v n Z := by
  obtain ⟨h0, h⟩ := h
  refine ⟨h0, ?_⟩
  rcases h with h | ⟨b, cap, rfl, h1, h2, h3, h4, h5⟩
  · exact .inl h
  · have hb := hk b h1 h2
    refine .inr ⟨b, cap, rfl, h1, h2, h3, fun q z hz => ?_, fun o => ?_⟩
    · rw [World.cell?_of_block (w := w) (a := ⟨b, q, none⟩) hb]; exact h4 q z hz
    · rw [World.frozen?_of_block (w := w) (a := ⟨b, o, none⟩) hb]; exact h5 o

/-- A table of the argument: its slice. -/
def RArg (w : World) (u : Value) (l : List Rt) : Prop := ∃ Z, Arg 3 w u l.length Z ∧ (List.range (l.length * 3)).map Z = flat l
theorem RArg.below {w w' : World} {u : Value} {l : List Rt} (h : RArg w u l) (hb : Below w.heap.size w w') : RArg w' u l := by
  obtain ⟨Z, h1, h2⟩ := h
  exact ⟨Z, h1.below hb, h2⟩
/-- A slice argument of tables. -/
def TArg (w : World) (v : Value) (D : List (List Rt)) : Prop :=
  D.length ≤ maxLen ∧ ((D = [] ∧ ∃ a c, v = .slice a 0 c) ∨
  ∃ b off cap, v = .slice (some ⟨b, off, none⟩) D.length cap ∧ b < w.heap.size ∧ ∃ us : Nat → Value, ∀ i l, D[i]? = some l → w.cell? ⟨b, off + i, none⟩ = some (us i) ∧ RArg w (us i) l)
theorem TArg.below {w w' : World} {v : Value} {D : List (List Rt)} (h : TArg w v D) (hb : Below w.heap.size w w') : TArg w' v D := by
  obtain ⟨h1, h⟩ := h
  refine ⟨h1, ?_⟩
  rcases h with h | ⟨b, off, cap, rfl, h2, us, h3⟩
  · exact .inl h
  · have := hb.size
    exact .inr ⟨b, off, cap, rfl, by omega, us, fun i l hi => ⟨by rw [hb.cell (p := ⟨b, off + i, none⟩) h2]; exact (h3 i l hi).1, (h3 i l hi).2.below hb⟩⟩
theorem TArg.slice {w : World} {v : Value} {D : List (List Rt)} (h : TArg w v D) : ∃ a c, v = .slice a D.length c := by
  rcases h.2 with ⟨rfl, a, c, rfl⟩ | ⟨b, off, cap, rfl, _⟩
  · exact ⟨a, c, rfl⟩
  · exact ⟨_, cap, rfl⟩
theorem TArg.opened {w : World} {v : Value} {D : List (List Rt)} (h : TArg w v D) : ∃ a c, v = .slice a D.length c ∧ (0 < D.length → ∃ b off, a = some ⟨b, off, none⟩ ∧ b < w.heap.size ∧ ∃ us : Nat → Value, ∀ i l, D[i]? = some l → w.cell? ⟨b, off + i, none⟩ = some (us i) ∧ RArg w (us i) l) := by
  rcases h.2 with ⟨rfl, a, c, rfl⟩ | ⟨b, off, cap, rfl, h2, h3⟩
  · exact ⟨a, c, rfl, fun h => absurd h (by simp)⟩
  · exact ⟨_, cap, rfl, fun _ => ⟨b, off, rfl, h2, h3⟩⟩

/-- The tables D in block G from its first cell on, their slices at us, each in a part bs of memory of its own. -/
structure TSt (w : World) (lo hi : Nat) (a : Option Addr) (D : List (List Rt)) (us : Nat → Value) (bs : Nat → Nat × Nat) : Prop where
  len : D.length ≤ 1100000
  outer : 0 < D.length → ∃ G, a = some ⟨G, 0, none⟩ ∧ lo ≤ G ∧ G < hi ∧ (∀ o, w.frozen? ⟨G, o, none⟩ = false) ∧ (∀ i l, D[i]? = some l → w.cell? ⟨G, i, none⟩ = some (us i)) ∧ ∀ i, i < D.length → G < (bs i).1 ∨ (bs i).2 ≤ G
  inner : ∀ i l, D[i]? = some l → Row 3 w (bs i).1 (bs i).2 (us i) l.length (flat l) ∧ lo ≤ (bs i).1 ∧ (bs i).2 ≤ hi
  apart : ∀ i j, i < j → j < D.length → (bs i).2 ≤ (bs j).1
/-- A slice of tables that share no memory. -/
def TRow (w : World) (lo hi : Nat) (v : Value) (D : List (List Rt)) : Prop := ∃ a c us bs, v = .slice a D.length c ∧ TSt w lo hi a D us bs
theorem TSt.move {w w' : World} {lo hi : Nat} {a : Option Addr} {D : List (List Rt)} {us : Nat → Value} {bs : Nat → Nat × Nat} (h : TSt w lo hi a D us bs) (hk : ∀ b, lo ≤ b → b < hi → w'.heap[b]? = w.heap[b]?) : TSt w' lo hi a D us bs where
  len := h.len
  outer hn := by
    obtain ⟨G, h1, h2, h3, h4, h5, h6⟩ := h.outer hn
    have hb := hk G h2 h3
    exact ⟨G, h1, h2, h3, fun o => by rw [World.frozen?_of_block (w := w) (a := ⟨G, o, none⟩) hb]; exact h4 o, fun i l hi' => by rw [World.cell?_of_block (w := w) (a := ⟨G, i, none⟩) hb]; exact h5 i l hi', h6⟩
  inner i l hi' := by
    obtain ⟨r1, h2, h3⟩ := h.inner i l hi'
    exact ⟨r1.move fun b x y => hk b (by omega) (by omega), h2, h3⟩
  apart := h.apart
theorem TRow.move {w w' : World} {lo hi : Nat} {v : Value} {D : List (List Rt)} (h : TRow w lo hi v D) (hk : ∀ b, lo ≤ b → b < hi → w'.heap[b]? = w.heap[b]?) : TRow w' lo hi v D := by
  obtain ⟨a, c, us, bs, e, h⟩ := h
  exact ⟨a, c, us, bs, e, h.move hk⟩
theorem TRow.below {w w' : World} {B lo hi : Nat} {v : Value} {D : List (List Rt)} (h : TRow w lo hi v D) (hb : Below B w w') (hB : hi ≤ B) : TRow w' lo hi v D := h.move fun b _ hb' => hb.block b (by omega)
theorem TRow.drewN {w : World} {lo hi : Nat} {v : Value} {D : List (List Rt)} (h : TRow w lo hi v D) (q : Nat) : TRow (w.drewN q) lo hi v D := h.move fun _ _ _ => rfl
theorem TRow.setCell {w : World} {lo hi : Nat} {v : Value} {D : List (List Rt)} (h : TRow w lo hi v D) {p : Addr} (hp : p.block < lo ∨ hi ≤ p.block) (u : Value) : TRow (w.setCell p u) lo hi v D := h.move fun b h1 h2 => Below.heap_setCell _ _ _ _ (by omega)
theorem TRow.wide {w : World} {lo hi lo' hi' : Nat} {v : Value} {D : List (List Rt)} (h : TRow w lo hi v D) (hl : lo' ≤ lo) (hh : hi ≤ hi') : TRow w lo' hi' v D := by
  obtain ⟨a, c, us, bs, e, h⟩ := h
  refine ⟨a, c, us, bs, e, h.len, fun hn => ?_, fun i l hi' => ?_, h.apart⟩
  · obtain ⟨G, h1, h2, h3, h4⟩ := h.outer hn
    exact ⟨G, h1, by omega, by omega, h4⟩
  · obtain ⟨h1, h2, h3⟩ := h.inner i l hi'
    exact ⟨h1, by omega, by omega⟩
theorem TRow.slice {w : World} {lo hi : Nat} {v : Value} {D : List (List Rt)} (h : TRow w lo hi v D) : ∃ a c, v = .slice a D.length c := by
  obtain ⟨a, c, _, _, e, _⟩ := h
  exact ⟨a, c, e⟩
theorem TRow.len {w : World} {lo hi : Nat} {v : Value} {D : List (List Rt)} (h : TRow w lo hi v D) : D.length ≤ 1100000 := by
  obtain ⟨_, _, _, _, _, h⟩ := h
  exact h.len
theorem TRow.empty (w : World) (lo hi : Nat) (a : Option Addr) (c : Nat) : TRow w lo hi (.slice a 0 c) [] :=
  ⟨a, c, fun _ => .bool true, fun _ => (0, 0), rfl, Nat.zero_le _, fun h => absurd h (Nat.lt_irrefl _), fun i l h => by simp at h, fun i j _ h => absurd h (Nat.not_lt_zero _)⟩
theorem Tur.trow {lo hi lo' hi' : Nat} {w w' : World} {v : Value} {D : List (List Rt)} (h : Tur lo hi w w') (hr : TRow w lo' hi' v D) (hh : hi' ≤ w.heap.size) (hd : hi' ≤ lo ∨ hi ≤ lo') : TRow w' lo' hi' v D := hr.move fun b h1 h2 => h.block b (by omega) (by omega)

/-- How many tables and routes there are. -/
def rtot : List (List Rt) → Nat
  | [] => 0
  | l :: D => l.length + rtot D
def ttot (D : List (List Rt)) : Nat := D.length + rtot D
theorem rtot_app : ∀ A B : List (List Rt), rtot (A ++ B) = rtot A + rtot B
  | [], B => by simp [rtot]
  | l :: A, B => by show l.length + rtot (A ++ B) = l.length + rtot A + rtot B; rw [rtot_app A B]; omega
theorem take_snocT {D : List (List Rt)} {k : Nat} {p : List Rt} (h : D[k]? = some p) : D.take (k + 1) = D.take k ++ [p] := by
  rw [List.take_add_one, h]; rfl
theorem rtot_snoc {D : List (List Rt)} {k : Nat} {p : List Rt} (h : D[k]? = some p) : rtot (D.take (k + 1)) = rtot (D.take k) + p.length := by
  rw [take_snocT h, rtot_app]; simp [rtot]
theorem rtot_take_le : ∀ (D : List (List Rt)) (k : Nat), rtot (D.take k) ≤ rtot D
  | [], k => by simp
  | l :: D, 0 => by simp [rtot]
  | l :: D, k + 1 => by show l.length + rtot (D.take k) ≤ l.length + rtot D; have := rtot_take_le D k; omega
theorem rtot_at_le {D : List (List Rt)} {k : Nat} {p : List Rt} (h : D[k]? = some p) : rtot (D.take k) + p.length ≤ rtot D := by
  rw [← rtot_snoc h]; exact rtot_take_le _ _

end Go.Proofs.Ytflhbfndfjkfgaa
