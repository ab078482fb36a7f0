/- Slices of advertisements. -/
import Derived.Test.YtfpafjdakipccaaMd
import Derived.Test.YtfpafjdakipccaaGz
namespace Go.Proofs.Ytfpafjdakipccaa
open Go.RowKit
theorem Row.move {k : Nat} {w w' : World} {lo hi n : Nat} {v : Value} {Z : List Int} (h : Row k w lo hi v n Z) (hk : ∀ b, lo <= b -> b < hi -> w'.heap[b]? = w.heap[b]?) : Row k w' lo hi v n Z := by
  obtain ⟨h0, h⟩ := h
  refine ⟨h0, ?_⟩
  rcases h with h | ⟨b, cap, rfl, h1, h2, h3, h4, h5⟩
  · exact .inl h
  · have hb := hk b h1 h2
    refine .inr ⟨b, cap, rfl, h1, h2, h3, fun q z hz => ?_, fun o => ?_⟩
    · rw [World.cell?_of_block (w := w) (a := ⟨b, q, none⟩) hb]; exact h4 q z hz
    · rw [World.frozen?_of_block (w := w) (a := ⟨b, o, none⟩) hb]; exact h5 o
def LArgL (w : World) (u x : Value) (l : Ls) : Prop := ∃ Y Z, LArg w u x l.K.length l.T.length Y Z /\ (List.range (l.K.length * 2)).map Y = flat2 l.K /\ (List.range (l.T.length * 3)).map Z = flat l.T
theorem LArgL.below {w w' : World} {u x : Value} {l : Ls} (h : LArgL w u x l) (hb : Below w.heap.size w w') : LArgL w' u x l := by
  obtain ⟨Y, Z, h1, h2, h3⟩ := h
  exact ⟨Y, Z, h1.below hb, h2, h3⟩
structure LC (w : World) (b off : Nat) (l : Ls) (u x : Value) : Prop where
  o : w.cell? ⟨b, off, none⟩ = some (.int .i64 l.o)
  s : w.cell? ⟨b, off + 1, none⟩ = some (.int .i64 l.s)
  g : w.cell? ⟨b, off + 2, none⟩ = some (.int .i64 l.g)
  u : w.cell? ⟨b, off + 3, none⟩ = some u
  x : w.cell? ⟨b, off + 4, none⟩ = some x
theorem LC.of {w w' : World} {b off : Nat} {l : Ls} {u x : Value} (h : LC w b off l u x) (hc : ∀ o, w'.cell? ⟨b, o, none⟩ = w.cell? ⟨b, o, none⟩) : LC w' b off l u x :=
  ⟨by rw [hc]; exact h.o, by rw [hc]; exact h.s, by rw [hc]; exact h.g, by rw [hc]; exact h.u, by rw [hc]; exact h.x⟩
theorem LC.below {w w' : World} {B b off : Nat} {l : Ls} {u x : Value} (h : LC w b off l u x) (hb : Below B w w') (hB : b < B) : LC w' b off l u x := h.of fun o => hb.cell (p := ⟨b, o, none⟩) hB
def DArg (w : World) (v : Value) (D : List Ls) : Prop :=
  D.length <= maxLen /\ ((D = [] /\ ∃ a c, v = .slice a 0 c) ∨
  ∃ b off cap, v = .slice (some ⟨b, off, none⟩) D.length cap /\ b < w.heap.size /\ ∃ us xs : Nat -> Value, ∀ i l, D[i]? = some l -> LC w b (off + i * 5) l (us i) (xs i) /\ LArgL w (us i) (xs i) l)
theorem DArg.below {w w' : World} {v : Value} {D : List Ls} (h : DArg w v D) (hb : Below w.heap.size w w') : DArg w' v D := by
  obtain ⟨h1, h⟩ := h
  refine ⟨h1, ?_⟩
  rcases h with h | ⟨b, off, cap, rfl, h2, us, xs, h3⟩
  · exact .inl h
  · have := hb.size
    exact .inr ⟨b, off, cap, rfl, by omega, us, xs, fun i l hi => ⟨(h3 i l hi).1.below hb h2, (h3 i l hi).2.below hb⟩⟩
theorem DArg.slice {w : World} {v : Value} {D : List Ls} (h : DArg w v D) : ∃ a c, v = .slice a D.length c := by
  rcases h.2 with ⟨rfl, a, c, rfl⟩ | ⟨b, off, cap, rfl, _⟩
  · exact ⟨a, c, rfl⟩
  · exact ⟨_, cap, rfl⟩
theorem DArg.opened {w : World} {v : Value} {D : List Ls} (h : DArg w v D) : ∃ a c, v = .slice a D.length c /\ (0 < D.length -> ∃ b off, a = some ⟨b, off, none⟩ /\ b < w.heap.size /\ ∃ us xs : Nat -> Value, ∀ i l, D[i]? = some l -> LC w b (off + i * 5) l (us i) (xs i) /\ LArgL w (us i) (xs i) l) := by
  rcases h.2 with ⟨rfl, a, c, rfl⟩ | ⟨b, off, cap, rfl, h2, h3⟩
  · exact ⟨a, c, rfl, fun h => absurd h (by simp)⟩
  · exact ⟨_, cap, rfl, fun _ => ⟨b, off, rfl, h2, h3⟩⟩
structure DSt (w : World) (lo hi : Nat) (a : Option Addr) (D : List Ls) (us xs : Nat -> Value) (bs : Nat -> Nat × Nat) : Prop where
  len : D.length <= 1100000
  outer : 0 < D.length -> ∃ G, a = some ⟨G, 0, none⟩ /\ lo <= G /\ G < hi /\ (∀ o, w.frozen? ⟨G, o, none⟩ = false) /\ (∀ i l, D[i]? = some l -> LC w G (i * 5) l (us i) (xs i)) /\ ∀ i, i < D.length -> G < (bs i).1 ∨ (bs i).2 <= G
  inner : ∀ i l, D[i]? = some l -> LRow w (bs i).1 (bs i).2 (us i) (xs i) l.K.length l.T.length (flat2 l.K) (flat l.T) /\ lo <= (bs i).1 /\ (bs i).2 <= hi
  apart : ∀ i j, i < j -> j < D.length -> (bs i).2 <= (bs j).1
def DRow (w : World) (lo hi : Nat) (v : Value) (D : List Ls) : Prop := ∃ a c us xs bs, v = .slice a D.length c /\ DSt w lo hi a D us xs bs
theorem DSt.move {w w' : World} {lo hi : Nat} {a : Option Addr} {D : List Ls} {us xs : Nat -> Value} {bs : Nat -> Nat × Nat} (h : DSt w lo hi a D us xs bs) (hk : ∀ b, lo <= b -> b < hi -> w'.heap[b]? = w.heap[b]?) : DSt w' lo hi a D us xs bs where
  len := h.len
  outer hn := by
    obtain ⟨G, h1, h2, h3, h4, h5, h6⟩ := h.outer hn
    have hb := hk G h2 h3
    exact ⟨G, h1, h2, h3, fun o => by rw [World.frozen?_of_block (w := w) (a := ⟨G, o, none⟩) hb]; exact h4 o, fun i l hi' => (h5 i l hi').of fun o => World.cell?_of_block (w := w) (a := ⟨G, o, none⟩) hb, h6⟩
  inner i l hi' := by
    obtain ⟨⟨mid, m1, m2, r1, r2⟩, h2, h3⟩ := h.inner i l hi'
    exact ⟨⟨mid, m1, m2, r1.move fun b x y => hk b (by omega) (by omega), r2.move fun b x y => hk b (by omega) (by omega)⟩, h2, h3⟩
  apart := h.apart
theorem DRow.move {w w' : World} {lo hi : Nat} {v : Value} {D : List Ls} (h : DRow w lo hi v D) (hk : ∀ b, lo <= b -> b < hi -> w'.heap[b]? = w.heap[b]?) : DRow w' lo hi v D := by
  obtain ⟨a, c, us, xs, bs, e, h⟩ := h
  exact ⟨a, c, us, xs, bs, e, h.move hk⟩
theorem DRow.below {w w' : World} {B lo hi : Nat} {v : Value} {D : List Ls} (h : DRow w lo hi v D) (hb : Below B w w') (hB : hi <= B) : DRow w' lo hi v D := h.move fun b _ hb' => hb.block b (by omega)
theorem DRow.drewN {w : World} {lo hi : Nat} {v : Value} {D : List Ls} (h : DRow w lo hi v D) (q : Nat) : DRow (w.drewN q) lo hi v D := h.move fun _ _ _ => rfl
theorem DRow.setCell {w : World} {lo hi : Nat} {v : Value} {D : List Ls} (h : DRow w lo hi v D) {p : Addr} (hp : p.block < lo ∨ hi <= p.block) (u : Value) : DRow (w.setCell p u) lo hi v D := h.move fun b h1 h2 => Below.heap_setCell _ _ _ _ (by omega)
theorem DRow.wide {w : World} {lo hi lo' hi' : Nat} {v : Value} {D : List Ls} (h : DRow w lo hi v D) (hl : lo' <= lo) (hh : hi <= hi') : DRow w lo' hi' v D := by
  obtain ⟨a, c, us, xs, bs, e, h⟩ := h
  refine ⟨a, c, us, xs, bs, e, h.len, fun hn => ?_, fun i l hi' => ?_, h.apart⟩
  · obtain ⟨G, h1, h2, h3, h4⟩ := h.outer hn
    exact ⟨G, h1, by omega, by omega, h4⟩
  · obtain ⟨h1, h2, h3⟩ := h.inner i l hi'
    exact ⟨h1, by omega, by omega⟩
theorem DRow.slice {w : World} {lo hi : Nat} {v : Value} {D : List Ls} (h : DRow w lo hi v D) : ∃ a c, v = .slice a D.length c := by
  obtain ⟨a, c, _, _, _, e, _⟩ := h
  exact ⟨a, c, e⟩
theorem DRow.len {w : World} {lo hi : Nat} {v : Value} {D : List Ls} (h : DRow w lo hi v D) : D.length <= 1100000 := by
  obtain ⟨_, _, _, _, _, _, h⟩ := h
  exact h.len
theorem DRow.empty (w : World) (lo hi : Nat) (a : Option Addr) (c : Nat) : DRow w lo hi (.slice a 0 c) [] :=
  ⟨a, c, fun _ => .bool true, fun _ => .bool true, fun _ => (0, 0), rfl, Nat.zero_le _, fun h => absurd h (Nat.lt_irrefl _), fun i l h => by simp at h, fun i j _ h => absurd h (Nat.not_lt_zero _)⟩
theorem Tur.drow {lo hi lo' hi' : Nat} {w w' : World} {v : Value} {D : List Ls} (h : Tur lo hi w w') (hr : DRow w lo' hi' v D) (hh : hi' <= w.heap.size) (hd : hi' <= lo ∨ hi <= lo') : DRow w' lo' hi' v D := hr.move fun b h1 h2 => h.block b (by omega) (by omega)
end Go.Proofs.Ytfpafjdakipccaa
