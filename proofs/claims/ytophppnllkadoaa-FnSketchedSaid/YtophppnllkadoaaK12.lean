/- A sketch in a box; sums. -/
import Derived.Test.YtophppnllkadoaaK11
namespace Go.Proofs.Ytophppnllkadoaa
open Go.RowKit


/-- A sketch in block X, its rows in blocks from X + 1 to H. -/
structure BoxM (w3 wr : World) (X H : Nat) (a : Option Addr) (c : Nat) (T : Int) (f : Nat → Nat → Int) : Prop where
  below : Below X w3 wr
  lt : X < w3.heap.size
  hi : H ≤ wr.heap.size
  frz : ∀ o, wr.frozen? ⟨X, o, none⟩ = false
  c0 : wr.cell? ⟨X, 0, none⟩ = some (.slice a 4 c)
  c1 : wr.cell? ⟨X, 1, none⟩ = some (.int .i64 T)
  row : KRow wr (X + 1) H (.slice a 4 c) 4 (mat f)
theorem BoxM.size {w3 wr : World} {X H c : Nat} {a : Option Addr} {T : Int} {f : Nat → Nat → Int} (h : BoxM w3 wr X H a c T f) : X < wr.heap.size := Nat.lt_of_lt_of_le h.lt h.below.size
theorem BoxM.grow {w3 wr w4 : World} {X H c : Nat} {a : Option Addr} {T : Int} {f : Nat → Nat → Int} (h : BoxM w3 wr X H a c T f) (hb : Below wr.heap.size wr w4) : BoxM w3 w4 X H a c T f := by
  have hs := h.size
  have := hb.size
  have := h.hi
  exact ⟨h.below.trans (hb.mono (by omega)), h.lt, by omega, fun o => by rw [hb.frozen (p := ⟨X, o, none⟩) hs]; exact h.frz o, by rw [hb.cell (p := ⟨X, 0, none⟩) hs]; exact h.c0, by rw [hb.cell (p := ⟨X, 1, none⟩) hs]; exact h.c1, h.row.below hb h.hi⟩
theorem BoxM.keep {w3 wr : World} {X H c b o : Nat} {a : Option Addr} {T : Int} {f : Nat → Nat → Int} {u : Value} (h : BoxM w3 wr X H a c T f) (hb : b < X) (hc : w3.cell? ⟨b, o, none⟩ = some u) : wr.cell? ⟨b, o, none⟩ = some u := by rw [h.below.cell (p := ⟨b, o, none⟩) hb]; exact hc
theorem BoxM.keepf {w3 wr : World} {X H c b o : Nat} {a : Option Addr} {T : Int} {f : Nat → Nat → Int} (h : BoxM w3 wr X H a c T f) (hb : b < X) (hc : w3.frozen? ⟨b, o, none⟩ = false) : wr.frozen? ⟨b, o, none⟩ = false := by rw [h.below.frozen (p := ⟨b, o, none⟩) hb]; exact hc
theorem BoxM.congr {w3 wr : World} {X H c : Nat} {a : Option Addr} {T : Int} {f g : Nat → Nat → Int} (h : BoxM w3 wr X H a c T f) (e : ∀ i j, i < 4 → j < 16 → f i j = g i j) : BoxM w3 wr X H a c T g :=
  ⟨h.below, h.lt, h.hi, h.frz, h.c0, h.c1, by rw [← mat_congr e]; exact h.row⟩
theorem BoxM.tot {w3 wr : World} {X H c : Nat} {a : Option Addr} {T : Int} {f : Nat → Nat → Int} (h : BoxM w3 wr X H a c T f) (T' : Int) : BoxM w3 (wr.setCell ⟨X, 1, none⟩ (.int .i64 T')) X H a c T' f :=
  ⟨h.below.setCell (Nat.le_refl _) _, h.lt, by simpa [World.setCell] using h.hi, fun o => by rw [World.frozen?_setCell]; exact h.frz o, by rw [World.cell?_setCell_other _ _ _ _ (by simp)]; exact h.c0, World.cell?_setCell_same' _ _ _ (by rw [h.c1]; rfl), h.row.setCell (p := ⟨X, 1, none⟩) (.inl (by show X < X + 1; omega)) _⟩
theorem BoxM.put {w3 wr : World} {X H c : Nat} {a : Option Addr} {T : Int} {f : Nat → Nat → Int} (h : BoxM w3 wr X H a c T f) {i j : Nat} (hi4 : i < 4) (hj : j < 16) :
    ∃ G y g, a = some ⟨G, 0, none⟩ ∧ X + 1 ≤ G ∧ G < H ∧ X + 1 ≤ g ∧ g < H ∧ wr.cell? ⟨G, i, none⟩ = some (.slice (some ⟨g, 0, none⟩) 16 y) ∧ wr.cell? ⟨g, j, none⟩ = some (.int .i64 (f i j)) ∧ wr.frozen? ⟨g, j, none⟩ = false ∧
      ∀ z : Int, BoxM w3 (wr.setCell ⟨g, j, none⟩ (.int .i64 z)) X H a c T (upd f i j z) := by
  obtain ⟨G, y, g, h1, h2, h3, h4, h5, h6, h7, h8, h9⟩ := h.row.put hi4 hj
  exact ⟨G, y, g, h1, h2, h3, h4, h5, h6, h7, h8, fun z => ⟨h.below.setCell (by show X ≤ g; omega) _, h.lt, by simpa [World.setCell] using h.hi, fun o => by rw [World.frozen?_setCell]; exact h.frz o, by rw [World.cell?_setCell_other _ _ _ _ (by simp <;> omega)]; exact h.c0, by rw [World.cell?_setCell_other _ _ _ _ (by simp <;> omega)]; exact h.c1, h9 z⟩⟩
theorem OutK.box {w3 wr : World} {X : Nat} {T : Int} {f : Nat → Nat → Int} (h : OutK w3 wr X T (mat f)) : ∃ G c, X + 1 ≤ G ∧ G < wr.heap.size ∧ BoxM w3 wr X wr.heap.size (some ⟨G, 0, none⟩) c T f := by
  obtain ⟨ra, rc, h1, h2⟩ := h.take (by rw [mat_len]; decide)
  rw [mat_len] at h1 h2
  obtain ⟨G, _, _, rfl, g1, g2, _⟩ := h2.put (i := 0) (j := 0) (by decide) (by decide)
  exact ⟨G, rc, g1, g2, h.1, h.2.1, Nat.le_refl _, h.2.2.1, h1, h.2.2.2.1, h2⟩
/-- The first p cells were added. -/
def gp (F f : Nat → Nat → Int) (p : Nat) : Nat → Nat → Int := fun i j => F i j + if 16 * i + j < p then f i j else 0
theorem gp_zero (F f : Nat → Nat → Int) : gp F f 0 = F := by funext i j; simp [gp]
theorem gp_here (F f : Nat → Nat → Int) (i j : Nat) : gp F f (16 * i + j) i j = F i j := by simp [gp]
theorem gp_step (F f : Nat → Nat → Int) {r c : Nat} (hc : c < 16) {z : Int} (hz : z = F r c + f r c) : ∀ i j, i < 4 → j < 16 → upd (gp F f (16 * r + c)) r c z i j = gp F f (16 * r + c + 1) i j := by
  intro i j _ hj
  unfold upd gp
  by_cases e : i = r ∧ j = c
  · obtain ⟨rfl, rfl⟩ := e
    rw [if_pos ⟨rfl, rfl⟩, if_pos (by omega)]
    exact hz
  · rw [if_neg e]
    congr 1
    by_cases h : 16 * i + j < 16 * r + c
    · rw [if_pos h, if_pos (by omega)]
    · rw [if_neg h, if_neg (by omega)]
theorem gp_all (F f : Nat → Nat → Int) : ∀ i j, i < 4 → j < 16 → gp F f 64 i j = F i j + f i j := by
  intro i j hi hj
  unfold gp
  rw [if_pos (by omega)]

end Go.Proofs.Ytophppnllkadoaa
