/- Sketches in boxes, as the law on sketches keeps them. -/
import Derived.Test.YtophppnllkadoaaK20
import Derived.Test.YtophppnllkadoaaS14
namespace Go.Proofs.Ytophppnllkadoaa
open Go.RowKit


/-- A sketch in a box: its total and its cells. Ys: the boxes that its rows leave alone. -/
structure SkR (base : Nat) (Ys : List Nat) (w : World) (X : Nat) (t : Int) (D : List (List Int)) : Prop where
  ex : ∃ lo hi a c, w.cell? ⟨X, 0, none⟩ = some (.slice a 4 c) ∧ KRow w lo hi (.slice a 4 c) 4 D ∧ base ≤ lo ∧ hi ≤ w.heap.size ∧ ∀ Y, Y ∈ Ys → Y < lo ∨ hi ≤ Y
  c1 : w.cell? ⟨X, 1, none⟩ = some (.int .i64 t)
  frz : w.frozen? ⟨X, 0, none⟩ = false ∧ w.frozen? ⟨X, 1, none⟩ = false
  lx : base ≤ X ∧ X < w.heap.size
theorem SkR.below {base X : Nat} {Ys : List Nat} {w w2 : World} {t : Int} {D : List (List Int)} (h : SkR base Ys w X t D) (hb : Below w.heap.size w w2) : SkR base Ys w2 X t D := by
  obtain ⟨lo, hi, a, c, e0, e1, e2, e3, e4⟩ := h.ex
  have hs := hb.size
  have hX := h.lx.2
  exact ⟨⟨lo, hi, a, c, by rw [hb.cell (p := ⟨X, 0, none⟩) hX]; exact e0, e1.below hb e3, e2, by omega, e4⟩, by rw [hb.cell (p := ⟨X, 1, none⟩) hX]; exact h.c1, ⟨by rw [hb.frozen (p := ⟨X, 0, none⟩) hX]; exact h.frz.1, by rw [hb.frozen (p := ⟨X, 1, none⟩) hX]; exact h.frz.2⟩, h.lx.1, by omega⟩
theorem SkR.other {base X Y o : Nat} {Ys : List Nat} {w : World} {t : Int} {D : List (List Int)} {u : Value} (h : SkR base Ys w X t D) (hY : Y ∈ Ys) (hne : Y ≠ X) : SkR base Ys (w.setCell ⟨Y, o, none⟩ u) X t D := by
  obtain ⟨lo, hi, a, c, e0, e1, e2, e3, e4⟩ := h.ex
  exact ⟨⟨lo, hi, a, c, by rw [World.cell?_setCell_other _ _ _ _ (by simp <;> omega)]; exact e0, e1.setCell (p := ⟨Y, o, none⟩) (e4 Y hY) _, e2, by simpa [World.setCell] using e3, e4⟩, by rw [World.cell?_setCell_other _ _ _ _ (by simp <;> omega)]; exact h.c1, ⟨by rw [World.frozen?_setCell]; exact h.frz.1, by rw [World.frozen?_setCell]; exact h.frz.2⟩, h.lx.1, by simpa [World.setCell] using h.lx.2⟩
theorem SkR.put {base X lo hi c : Nat} {Ys : List Nat} {w : World} {t : Int} {D : List (List Int)} {a : Option Addr} (h : SkR base Ys w X t D) (hX : X ∈ Ys) {D2 : List (List Int)} (t2 : Int) (hr : KRow w lo hi (.slice a 4 c) 4 D2) (h1 : base ≤ lo) (h2 : hi ≤ w.heap.size) (h3 : ∀ Y, Y ∈ Ys → Y < lo ∨ hi ≤ Y) :
    SkR base Ys ((w.setCell ⟨X, 0, none⟩ (.slice a 4 c)).setCell ⟨X, 1, none⟩ (.int .i64 t2)) X t2 D2 := by
  obtain ⟨_, _, _, _, e0, _, _, _, _⟩ := h.ex
  refine ⟨⟨lo, hi, a, c, ?_, (hr.setCell (p := ⟨X, 0, none⟩) (h3 X hX) _).setCell (p := ⟨X, 1, none⟩) (h3 X hX) _, h1, by simpa [World.setCell] using h2, h3⟩, ?_, ⟨?_, ?_⟩, h.lx.1, by simpa [World.setCell] using h.lx.2⟩
  · rw [World.cell?_setCell_other _ _ _ _ (by simp)]; exact World.cell?_setCell_same' _ _ _ (by rw [e0]; rfl)
  · exact World.cell?_setCell_same' _ _ _ (by rw [World.cell?_setCell_other _ _ _ _ (by simp), h.c1]; rfl)
  · rw [World.frozen?_setCell, World.frozen?_setCell]; exact h.frz.1
  · rw [World.frozen?_setCell, World.frozen?_setCell]; exact h.frz.2
/-- What the law's first loop holds: all additions in one sketch, and parted over two. -/
structure LpK (w1 : World) (X4 X5 X6 : Nat) (A : List Ad) (i : Nat) (wr : World) : Prop where
  low : Below w1.heap.size w1 wr
  ok : adsOk (A.take i)
  one : SkR w1.heap.size [X4, X5, X6] wr X4 (shT (A.take i)) (mat (shF (A.take i)))
  two : ∃ P Q, adsOk P ∧ adsOk Q ∧ shT P + shT Q = shT (A.take i) ∧ (∀ a b, shF P a b + shF Q a b = shF (A.take i) a b) ∧ SkR w1.heap.size [X4, X5, X6] wr X5 (shT P) (mat (shF P)) ∧ SkR w1.heap.size [X4, X5, X6] wr X6 (shT Q) (mat (shF Q))
  ne : X4 ≠ X5 ∧ X4 ≠ X6 ∧ X5 ≠ X6
theorem shT_in {L : List Ad} (h : adsOk L) : 0 ≤ shT L ∧ shT L ≤ (L.length : Int) * 1000000 := by
  induction L with
  | nil => simp [shT]
  | cons b L ih =>
    have h1 := ih (adsOk_tail h)
    have h2 := inB_iff.1 (h b (List.mem_cons_self)).2
    simp only [shT, List.length_cons]
    push_cast
    omega
theorem akD_len {t key num : Int} {D : List (List Int)} (hD : D.length = 4) : (akD t D key num).length = 4 := by
  cases e : akB t D key num with
  | false => rw [(ak_no e).1]; exact hD
  | true => rw [(ak_yes e).1]; exact mat_len _
theorem take_ad {A : List Ad} {k : Nat} {a : Ad} (h : A[k]? = some a) : A.take (k + 1) = A.take k ++ [a] := by rw [List.take_add_one, h]; rfl
theorem truth_app (key : Int) (L : List Ad) (a : Ad) : truth key (L ++ [a]) = truth key L + if a.1 = key then a.2 else 0 := by
  induction L with
  | nil => simp [truth]
  | cons b L ih => simp only [List.cons_append, truth, ih]; omega
theorem truth_in {L : List Ad} (h : adsOk L) (key : Int) : 0 ≤ truth key L ∧ truth key L ≤ shT L := by
  induction L with
  | nil => simp [truth, shT]
  | cons b L ih =>
    have h1 := ih (adsOk_tail h)
    have h2 := inB_iff.1 (h b (List.mem_cons_self)).2
    simp only [truth, shT]
    split <;> omega
theorem adsOk_take {A : List Ad} (h : adsOk A) (k : Nat) : adsOk (A.take k) := fun a ha => h a (List.mem_of_mem_take ha)
/-- One more addition that is ok: to the whole, and to one of the parts. -/
theorem LpK.bnd {w1 wr : World} {X4 X5 X6 i : Nat} {A P Q : List Ad} (hi : i ≤ 301) (hok : adsOk (A.take i)) (hP : adsOk P) (hQ : adsOk Q) (hs : shT P + shT Q = shT (A.take i)) (_h : LpK w1 X4 X5 X6 A i wr) : (0 ≤ shT (A.take i) ∧ shT (A.take i) ≤ 301000000) ∧ (0 ≤ shT P ∧ shT P ≤ 301000000) ∧ (0 ≤ shT Q ∧ shT Q ≤ 301000000) := by
  have h1 := shT_in hok
  have h2 := (shT_in hP).1
  have h3 := (shT_in hQ).1
  have hl : (A.take i).length ≤ 301 := by rw [List.length_take]; omega
  omega
theorem row2_cells {w : World} {lo hi m c : Nat} {a : Option Addr} {A : List Ad} (hr : Row 2 w lo hi (.slice a m c) m (flat2 A)) {k : Nat} {x y : Int} (hk : A[k]? = some (x, y)) : ∃ g, a = some ⟨g, 0, none⟩ ∧ lo ≤ g ∧ g < hi ∧ w.cell? ⟨g, k * 2, none⟩ = some (.int .i64 x) ∧ w.cell? ⟨g, k * 2 + 1, none⟩ = some (.int .i64 y) := by
  obtain ⟨r0, r1⟩ := flat2_at A k _ hk
  rcases hr with ⟨h0, ⟨e, _⟩ | ⟨g, cap, e, h1, h2, _, h4, _⟩⟩
  · have := lt_of_at r0; omega
  · simp only [Value.slice.injEq] at e
    exact ⟨g, e.1, h1, h2, h4 _ _ r0, h4 _ _ r1⟩

end Go.Proofs.Ytophppnllkadoaa
