/- A sketch in a box behind its rows; a key added. -/
import Derived.Test.YtophppnllkadoaaK14
namespace Go.Proofs.Ytophppnllkadoaa
open Go.RowKit

/-- A sketch in block X, its rows in blocks from X + 1 to H. -/
structure BoxL (w3 wr : World) (B X L H : Nat) (a : Option Addr) (c : Nat) (T : Int) (f : Nat → Nat → Int) : Prop where
  below : Below B w3 wr
  bX : B ≤ X
  bL : B ≤ L
  sep : X < L ∨ H ≤ X
  lt : X < w3.heap.size
  hi : H ≤ wr.heap.size
  frz : ∀ o, o < 2 → wr.frozen? ⟨X, o, none⟩ = false
  c0 : wr.cell? ⟨X, 0, none⟩ = some (.slice a 4 c)
  c1 : wr.cell? ⟨X, 1, none⟩ = some (.int .i64 T)
  row : KRow wr L H (.slice a 4 c) 4 (mat f)
theorem BoxL.size {w3 wr : World} {B X L H c : Nat} {a : Option Addr} {T : Int} {f : Nat → Nat → Int} (h : BoxL w3 wr B X L H a c T f) : X < wr.heap.size := Nat.lt_of_lt_of_le h.lt h.below.size
theorem BoxL.grow {w3 wr w4 : World} {B X L H c : Nat} {a : Option Addr} {T : Int} {f : Nat → Nat → Int} (h : BoxL w3 wr B X L H a c T f) (hb : Below wr.heap.size wr w4) : BoxL w3 w4 B X L H a c T f := by
  have hs := h.size
  have := hb.size
  have := h.hi
  have := h.bX
  exact ⟨h.below.trans (hb.mono (by omega)), h.bX, h.bL, h.sep, h.lt, by omega, fun o ho => by rw [hb.frozen (p := ⟨X, o, none⟩) hs]; exact h.frz o ho, by rw [hb.cell (p := ⟨X, 0, none⟩) hs]; exact h.c0, by rw [hb.cell (p := ⟨X, 1, none⟩) hs]; exact h.c1, h.row.below hb h.hi⟩
theorem BoxL.keep {w3 wr : World} {B X L H c b o : Nat} {a : Option Addr} {T : Int} {f : Nat → Nat → Int} {u : Value} (h : BoxL w3 wr B X L H a c T f) (hb : b < B) (hc : w3.cell? ⟨b, o, none⟩ = some u) : wr.cell? ⟨b, o, none⟩ = some u := by rw [h.below.cell (p := ⟨b, o, none⟩) hb]; exact hc
theorem BoxL.keepf {w3 wr : World} {B X L H c b o : Nat} {a : Option Addr} {T : Int} {f : Nat → Nat → Int} (h : BoxL w3 wr B X L H a c T f) (hb : b < B) (hc : w3.frozen? ⟨b, o, none⟩ = false) : wr.frozen? ⟨b, o, none⟩ = false := by rw [h.below.frozen (p := ⟨b, o, none⟩) hb]; exact hc
theorem BoxL.congr {w3 wr : World} {B X L H c : Nat} {a : Option Addr} {T : Int} {f g : Nat → Nat → Int} (h : BoxL w3 wr B X L H a c T f) (e : ∀ i j, i < 4 → j < 16 → f i j = g i j) : BoxL w3 wr B X L H a c T g :=
  ⟨h.below, h.bX, h.bL, h.sep, h.lt, h.hi, h.frz, h.c0, h.c1, by rw [← mat_congr e]; exact h.row⟩
theorem BoxL.tot {w3 wr : World} {B X L H c : Nat} {a : Option Addr} {T : Int} {f : Nat → Nat → Int} (h : BoxL w3 wr B X L H a c T f) (T' : Int) : BoxL w3 (wr.setCell ⟨X, 1, none⟩ (.int .i64 T')) B X L H a c T' f :=
  ⟨h.below.setCell h.bX _, h.bX, h.bL, h.sep, h.lt, by simpa [World.setCell] using h.hi, fun o ho => by rw [World.frozen?_setCell]; exact h.frz o ho, by rw [World.cell?_setCell_other _ _ _ _ (by simp)]; exact h.c0, World.cell?_setCell_same' _ _ _ (by rw [h.c1]; rfl), h.row.setCell (p := ⟨X, 1, none⟩) h.sep _⟩
theorem BoxL.put {w3 wr : World} {B X L H c : Nat} {a : Option Addr} {T : Int} {f : Nat → Nat → Int} (h : BoxL w3 wr B X L H a c T f) {i j : Nat} (hi4 : i < 4) (hj : j < 16) :
    ∃ G y g, a = some ⟨G, 0, none⟩ ∧ L ≤ G ∧ G < H ∧ L ≤ g ∧ g < H ∧ wr.cell? ⟨G, i, none⟩ = some (.slice (some ⟨g, 0, none⟩) 16 y) ∧ wr.cell? ⟨g, j, none⟩ = some (.int .i64 (f i j)) ∧ wr.frozen? ⟨g, j, none⟩ = false ∧
      ∀ z : Int, BoxL w3 (wr.setCell ⟨g, j, none⟩ (.int .i64 z)) B X L H a c T (upd f i j z) := by
  obtain ⟨G, y, g, h1, h2, h3, h4, h5, h6, h7, h8, h9⟩ := h.row.put hi4 hj
  have hs := h.sep
  have hbl := h.bL
  exact ⟨G, y, g, h1, h2, h3, h4, h5, h6, h7, h8, fun z => ⟨h.below.setCell (by show B ≤ g; omega) _, h.bX, h.bL, h.sep, h.lt, by simpa [World.setCell] using h.hi, fun o ho => by rw [World.frozen?_setCell]; exact h.frz o ho, by rw [World.cell?_setCell_other _ _ _ _ (by simp <;> omega)]; exact h.c0, by rw [World.cell?_setCell_other _ _ _ _ (by simp <;> omega)]; exact h.c1, h9 z⟩⟩

theorem cellD_mat (f : Nat → Nat → Int) {i j : Nat} (hi : i < 4) (hj : j < 16) : cellD (mat f) i j = f i j := by unfold cellD; rw [mat_at f hi]; simp [mrow_at f i hj]
/-- A sketch with a key added. -/
def akS (D : List (List Int)) (key num : Int) : List (List Int) := mat fun i j => cellD D i j + if j = colN i key then num else 0
def oneD (key num : Int) : List (List Int) := mat fun i j => if j = colN i key then num else 0
theorem sum_one (D : List (List Int)) (key num : Int) : sumD D (oneD key num) = akS D key num := mat_congr fun i j hi hj => by unfold oneD; rw [cellD_mat _ hi hj]
theorem row_one (c : Nat) (hc : c < 16) (num : Int) (hn : 0 ≤ num) : RowP ((List.range 16).map fun j => if j = c then num else 0) num := by
  refine ⟨fun x hx => ?_, ?_⟩
  · obtain ⟨j, _, rfl⟩ := List.mem_map.1 hx
    split <;> omega
  · have : c = 0 ∨ c = 1 ∨ c = 2 ∨ c = 3 ∨ c = 4 ∨ c = 5 ∨ c = 6 ∨ c = 7 ∨ c = 8 ∨ c = 9 ∨ c = 10 ∨ c = 11 ∨ c = 12 ∨ c = 13 ∨ c = 14 ∨ c = 15 := by omega
    rcases this with rfl | rfl | rfl | rfl | rfl | rfl | rfl | rfl | rfl | rfl | rfl | rfl | rfl | rfl | rfl | rfl <;> simp [List.range_succ, sumL]
noncomputable def akB (t : Int) (D : List (List Int)) (key num : Int) : Bool := skB t D && (keyB key && (inB num 1 1000000 && skB (t + num) (akS D key num)))
noncomputable def akD (t : Int) (D : List (List Int)) (key num : Int) : List (List Int) := if akB t D key num = true then akS D key num else D
noncomputable def akT (t : Int) (D : List (List Int)) (key num : Int) : Int := if akB t D key num = true then t + num else t
theorem ak_no {t key num : Int} {D : List (List Int)} (h : akB t D key num = false) : akD t D key num = D ∧ akT t D key num = t := by unfold akD akT; rw [h]; exact ⟨rfl, rfl⟩
theorem ak_yes {t key num : Int} {D : List (List Int)} (h : akB t D key num = true) : akD t D key num = akS D key num ∧ akT t D key num = t + num := by unfold akD akT; rw [h]; exact ⟨rfl, rfl⟩
theorem akS_len (D : List (List Int)) (key num : Int) : (akS D key num).length = 4 := mat_len _
theorem one_ok {key num : Int} (hk : keyB key = true) (hn : inB num 1 1000000 = true) : skB num (oneD key num) = true := by
  have h := inB_iff.1 hn
  refine skB_iff.2 ⟨mat_len _, by omega, fun i l hl => ?_⟩
  have hi : i < 4 := by have := lt_of_at hl; unfold oneD at this; rw [mat_len] at this; exact this
  unfold oneD at hl
  rw [mat_at _ hi] at hl
  obtain rfl := Option.some.inj hl
  exact ⟨mrow_len _ _, row_one _ (colN_eq hi hk).2 num (by omega)⟩
/-- The first k rows have the key. -/
def akF (D : List (List Int)) (key num : Int) (k : Nat) : Nat → Nat → Int := fun i j => cellD D i j + if i < k ∧ j = colN i key then num else 0
theorem akF_zero (D : List (List Int)) (key num : Int) : akF D key num 0 = cellD D := by funext i j; simp [akF]
theorem akF_here (D : List (List Int)) (key num : Int) (k j : Nat) : akF D key num k k j = cellD D k j := by simp [akF]
theorem akF_step (D : List (List Int)) (key num : Int) (k : Nat) {z : Int} (hz : z = cellD D k (colN k key) + num) : ∀ i j, i < 4 → j < 16 → upd (akF D key num k) k (colN k key) z i j = akF D key num (k + 1) i j := by
  intro i j _ _
  unfold upd akF
  by_cases e : i = k ∧ j = colN k key
  · obtain ⟨rfl, rfl⟩ := e
    rw [if_pos ⟨rfl, rfl⟩, if_pos ⟨by omega, rfl⟩]
    exact hz
  · rw [if_neg e]
    congr 1
    by_cases h : i < k ∧ j = colN i key
    · rw [if_pos h, if_pos ⟨by omega, h.2⟩]
    · rw [if_neg h, if_neg]
      rintro ⟨h1, h2⟩
      rcases Nat.lt_or_ge i k with h3 | h3
      · exact h ⟨h3, h2⟩
      · obtain rfl : i = k := by omega
        exact e ⟨rfl, h2⟩
theorem akF_all (D : List (List Int)) (key num : Int) : ∀ i j, i < 4 → j < 16 → akF D key num 4 i j = cellD D i j + if j = colN i key then num else 0 := by
  intro i j hi _
  unfold akF
  congr 1
  by_cases h : j = colN i key
  · rw [if_pos ⟨hi, h⟩, if_pos h]
  · rw [if_neg (fun e => h e.2), if_neg h]

end Go.Proofs.Ytophppnllkadoaa
