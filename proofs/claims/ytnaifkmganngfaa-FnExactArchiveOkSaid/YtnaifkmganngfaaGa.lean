/- Rows of integers: what it means that a slice of structs of integers holds a list; arguments of such types read; of whatever program. -/
import Derived.WalkKit
import Derived.OwnWalk
import Derived.Laws.AppendOwn
import Derived.Lib.Hide
import Derived.Deep.Slices
import Derived.Lib.SmallJoins
import Derived.IntWalk
namespace Go.Proofs.Ytnaifkmganngfaa
open Go.RowKit Go.ChangeShapes Go.WideShapes

theorem ret_int {k : IntKind} {a b : Int} (h : a = b) : Ending.returned (.int k a) = .returned (.int k b) := by rw [h]
theorem quiet_same {P : Program} {f : FuncId} {args : Array Value} {w : World} {n : Nat} {v : Value}
    (h : Calls P f args (w.drewN n) fun e w' => e = .returned v ∧ w.drewN n = w') : Calls P f args (w.drewN n) fun e w'' => e = .returned v ∧ ∃ m, w'' = w.drewN m :=
  h.mono fun _ _ ⟨he, hm⟩ => ⟨he, n, hm.symm⟩
theorem bcell {W w1 : World} (hb : Below W.heap.size W w1) : (∀ b o, b < W.heap.size → w1.cell? ⟨b, o, none⟩ = W.cell? ⟨b, o, none⟩) ∧ (∀ b o, b < W.heap.size → w1.frozen? ⟨b, o, none⟩ = W.frozen? ⟨b, o, none⟩) :=
  ⟨fun b o h => hb.cell (p := ⟨b, o, none⟩) h, fun b o h => hb.frozen (p := ⟨b, o, none⟩) h⟩
theorem chain {W0 w1 w2 : World} (h : Below W0.heap.size W0 w1) (hb : Below w1.heap.size w1 w2) : Below W0.heap.size W0 w2 := h.trans (hb.mono h.size)
theorem unbox {w w2 : World} {o : Obj} (h : Below (w.alloc o).heap.size (w.alloc o) w2) : Below w.heap.size w w2 := ((Below.refl _ _).alloc (Nat.le_refl _) _).trans (h.mono (by simp))
theorem w_in {x : Int} (h0 : -9223372036854775808 ≤ x) (h1 : x ≤ 9223372036854775807) : wrap64 x = x := by
  unfold wrap64; omega

/-- The slice v holds n elements of k cells each, the integers Z, in world w; its block, if it has one, lies from lo on and below hi, and is not frozen. -/
def Row (k : Nat) (w : World) (lo hi : Nat) (v : Value) (n : Nat) (Z : List Int) : Prop :=
  Z.length = n * k ∧ ((n = 0 ∧ ∃ a c, v = .slice a 0 c) ∨
  ∃ g cap, v = .slice (some ⟨g, 0, none⟩) n cap ∧ lo ≤ g ∧ g < hi ∧ n ≤ 1100000 ∧ (∀ q z, Z[q]? = some z → w.cell? ⟨g, q, none⟩ = some (.int .i64 z)) ∧ ∀ o, w.frozen? ⟨g, o, none⟩ = false)

theorem Row.below {k : Nat} {w w' : World} {B lo hi n : Nat} {v : Value} {Z : List Int} (h : Row k w lo hi v n Z) (hb : Below B w w') (hB : hi ≤ B) : Row k w' lo hi v n Z := by
  obtain ⟨h0, h⟩ := h
  refine ⟨h0, ?_⟩
  rcases h with h | ⟨g, cap, rfl, h1, h2, h3, h4, h5⟩
  · exact .inl h
  · refine .inr ⟨g, cap, rfl, h1, h2, h3, fun q z hz => ?_, fun o => ?_⟩
    · rw [hb.cell (p := ⟨g, q, none⟩) (by show g < B; omega)]; exact h4 q z hz
    · rw [hb.frozen (p := ⟨g, o, none⟩) (by show g < B; omega)]; exact h5 o
theorem Row.wide {k : Nat} {w : World} {lo hi lo' hi' n : Nat} {v : Value} {Z : List Int} (h : Row k w lo hi v n Z) (hl : lo' ≤ lo) (hh : hi ≤ hi') : Row k w lo' hi' v n Z := by
  obtain ⟨h0, h⟩ := h
  refine ⟨h0, ?_⟩
  rcases h with h | ⟨g, cap, rfl, h1, h2, h3, h4, h5⟩
  · exact .inl h
  · exact .inr ⟨g, cap, rfl, by omega, by omega, h3, h4, h5⟩
theorem Row.drewN {k : Nat} {w : World} {lo hi n : Nat} {v : Value} {Z : List Int} (h : Row k w lo hi v n Z) (q : Nat) : Row k (w.drewN q) lo hi v n Z := h
theorem Row.empty (k : Nat) (w : World) (lo hi : Nat) (a : Option Addr) (c : Nat) : Row k w lo hi (.slice a 0 c) 0 [] := ⟨by simp, .inl ⟨rfl, a, c, rfl⟩⟩

theorem Row.setCell {k : Nat} {w : World} {lo hi n : Nat} {v : Value} {Z : List Int} (h : Row k w lo hi v n Z) {p : Addr} (hp : p.block < lo ∨ hi ≤ p.block) (u : Value) : Row k (w.setCell p u) lo hi v n Z := by
  obtain ⟨h0, h⟩ := h
  refine ⟨h0, ?_⟩
  rcases h with h | ⟨b, cap, rfl, h1, h2, h3, h4, h5⟩
  · exact .inl h
  · refine .inr ⟨b, cap, rfl, h1, h2, h3, fun q z hz => ?_, fun o => ?_⟩
    · rw [World.cell?_setCell_other _ _ _ _ (by intro e; subst e; simp at hp; omega)]; exact h4 q z hz
    · rw [World.frozen?_setCell]; exact h5 o
theorem Row.alloc {k : Nat} {w : World} {lo hi n : Nat} {v : Value} {Z : List Int} (h : Row k w lo hi v n Z) (hh : hi ≤ w.heap.size) (o : Obj) : Row k (w.alloc o) lo hi v n Z :=
  h.below ((Below.refl _ _).alloc (Nat.le_refl _) o) hh
theorem Row.drew {k : Nat} {w : World} {lo hi n : Nat} {v : Value} {Z : List Int} (h : Row k w lo hi v n Z) : Row k w.drew lo hi v n Z := h
theorem Row.slice {k : Nat} {w : World} {lo hi n : Nat} {v : Value} {Z : List Int} (h : Row k w lo hi v n Z) : ∃ a c, v = .slice a n c := by
  rcases h.2 with ⟨rfl, a, c, rfl⟩ | ⟨g, cap, rfl, _⟩
  · exact ⟨a, c, rfl⟩
  · exact ⟨_, cap, rfl⟩

theorem old_box {w : World} {b o : Nat} {x : Obj} (h : b < w.heap.size) : (w.alloc x).cell? ⟨b, o, none⟩ = w.cell? ⟨b, o, none⟩ := World.cell?_alloc_lt _ _ _ h
theorem new_box (w : World) (c : Value) (t : TypeId) : (w.alloc (.cells #[c] t)).cell? ⟨w.heap.size, 0, none⟩ = some c := by simp

/-- Of w nothing but block g has turned, and nothing is new. -/
def Only (g : Nat) (w wr : World) : Prop := wr.os = w.os ∧ wr.tape = w.tape ∧ wr.output = w.output ∧ wr.heap.size = w.heap.size ∧ ∀ b, b ≠ g → wr.heap[b]? = w.heap[b]?
theorem Only.refl (g : Nat) (w : World) : Only g w w := ⟨rfl, rfl, rfl, rfl, fun _ _ => rfl⟩
theorem Only.setCell {g : Nat} {w wr : World} (h : Only g w wr) (o : Nat) (u : Value) : Only g w (wr.setCell ⟨g, o, none⟩ u) :=
  ⟨h.1, h.2.1, h.2.2.1, by rw [← h.2.2.2.1]; simp [World.setCell], fun b hb => by rw [Below.heap_setCell _ _ _ _ hb]; exact h.2.2.2.2 b hb⟩
theorem Only.below {g : Nat} {w wr : World} (h : Only g w wr) {B : Nat} (hB : B ≤ g) : Below B w wr :=
  ⟨h.1, h.2.1, h.2.2.1, by rw [h.2.2.2.1]; exact Nat.le_refl _, fun k hk => h.2.2.2.2 k (by omega)⟩
theorem Row.only {k : Nat} {w wr : World} {g lo hi n : Nat} {v : Value} {Z : List Int} (h : Row k w lo hi v n Z) (ho : Only g w wr) (hg : hi ≤ g ∨ g < lo) : Row k wr lo hi v n Z := by
  obtain ⟨h0, h⟩ := h
  refine ⟨h0, ?_⟩
  rcases h with h | ⟨b, cap, rfl, h1, h2, h3, h4, h5⟩
  · exact .inl h
  · have hb := ho.2.2.2.2 b (by omega)
    refine .inr ⟨b, cap, rfl, h1, h2, h3, fun q z hz => ?_, fun o => ?_⟩
    · rw [World.cell?_of_block (w := w) (a := ⟨b, q, none⟩) hb]; exact h4 q z hz
    · rw [World.frozen?_of_block (w := w) (a := ⟨b, o, none⟩) hb]; exact h5 o

/-- Of w no old block but g has turned. -/
def Else (g : Nat) (w w' : World) : Prop := w'.os = w.os ∧ w'.tape = w.tape ∧ w'.output = w.output ∧ w.heap.size ≤ w'.heap.size ∧ ∀ b, b < w.heap.size → b ≠ g → w'.heap[b]? = w.heap[b]?
theorem Only.else_ {g : Nat} {w w' : World} (h : Only g w w') : Else g w w' := ⟨h.1, h.2.1, h.2.2.1, by rw [h.2.2.2.1]; exact Nat.le_refl _, fun b _ hb => h.2.2.2.2 b hb⟩
theorem Else.of_below {g : Nat} {w w' : World} (h : Below w.heap.size w w') : Else g w w' := ⟨h.os, h.tape, h.output, h.size, fun b hb _ => h.block b hb⟩
theorem Else.trans {g : Nat} {a b c : World} (h : Else g a b) (h' : Else g b c) : Else g a c :=
  ⟨h'.1.trans h.1, h'.2.1.trans h.2.1, h'.2.2.1.trans h.2.2.1, Nat.le_trans h.2.2.2.1 h'.2.2.2.1, fun k hk hg => (h'.2.2.2.2 k (Nat.lt_of_lt_of_le hk h.2.2.2.1) hg).trans (h.2.2.2.2 k hk hg)⟩
theorem Else.below {g B : Nat} {w w' : World} (h : Else g w w') (hB : B ≤ g) (hw : B ≤ w.heap.size) : Below B w w' := ⟨h.1, h.2.1, h.2.2.1, h.2.2.2.1, fun k hk => h.2.2.2.2 k (by omega) (by omega)⟩
theorem Else.cell {g b o : Nat} {w w' : World} (h : Else g w w') (hb : b < w.heap.size) (hg : b ≠ g) : w'.cell? ⟨b, o, none⟩ = w.cell? ⟨b, o, none⟩ := World.cell?_of_block (w := w) (a := ⟨b, o, none⟩) (h.2.2.2.2 b hb hg)
theorem Row.else_ {k : Nat} {w wr : World} {g lo hi n : Nat} {v : Value} {Z : List Int} (h : Row k w lo hi v n Z) (ho : Else g w wr) (hh : hi ≤ w.heap.size) (hg : hi ≤ g ∨ g < lo) : Row k wr lo hi v n Z := by
  obtain ⟨h0, h⟩ := h
  refine ⟨h0, ?_⟩
  rcases h with h | ⟨b, cap, rfl, h1, h2, h3, h4, h5⟩
  · exact .inl h
  · have hb := ho.2.2.2.2 b (by omega) (by omega)
    refine .inr ⟨b, cap, rfl, h1, h2, h3, fun q z hz => ?_, fun o => ?_⟩
    · rw [World.cell?_of_block (w := w) (a := ⟨b, q, none⟩) hb]; exact h4 q z hz
    · rw [World.frozen?_of_block (w := w) (a := ⟨b, o, none⟩) hb]; exact h5 o
/-- What mark does to the world: of the old blocks it turns one alone, and that one lies in the row. -/
def Turned (lo hi : Nat) (w w' : World) : Prop := ∃ g, Else g w w' ∧ (lo ≤ g ∧ g < hi ∨ w.heap.size ≤ g)
theorem Turned.cell {lo hi b o : Nat} {w w' : World} (h : Turned lo hi w w') (hb : b < w.heap.size) (hg : b < lo ∨ hi ≤ b) : w'.cell? ⟨b, o, none⟩ = w.cell? ⟨b, o, none⟩ := by
  obtain ⟨g, he, hg'⟩ := h
  exact he.cell hb (by omega)
theorem Turned.row {k lo hi lo' hi' n : Nat} {w w' : World} {v : Value} {Z : List Int} (h : Turned lo hi w w') (hr : Row k w lo' hi' v n Z) (hh : hi' ≤ w.heap.size) (hd : hi' ≤ lo ∨ hi ≤ lo') : Row k w' lo' hi' v n Z := by
  obtain ⟨g, he, hg⟩ := h
  refine hr.else_ he hh ?_
  rcases hg with hg | hg <;> omega
theorem Turned.below {lo hi B : Nat} {w w' : World} (h : Turned lo hi w w') (hB : B ≤ lo) (hw : B ≤ w.heap.size) : Below B w w' := by
  obtain ⟨g, he, hg⟩ := h
  refine he.below ?_ hw
  rcases hg with hg | hg <;> omega
theorem Turned.size {lo hi : Nat} {w w' : World} (h : Turned lo hi w w') : w.heap.size ≤ w'.heap.size := by
  obtain ⟨g, he, _⟩ := h
  exact he.2.2.2.1
theorem Turned.of_only {lo hi g : Nat} {w w' : World} (h : Only g w w') (hg : lo ≤ g ∧ g < hi ∨ w = w') : Turned lo hi w w' := by
  rcases hg with hg | hg
  · exact ⟨g, h.else_, .inl hg⟩
  · subst hg; exact ⟨w.heap.size, Else.of_below (Below.refl _ _), .inr (Nat.le_refl _)⟩
theorem Turned.boxed {lo hi : Nat} {w w' : World} {o : Obj} (h : Turned lo hi (w.alloc o) w') : Turned lo hi w w' := by
  obtain ⟨g, he, hg⟩ := h
  refine ⟨g, (Else.of_below ((Below.refl _ _).alloc (Nat.le_refl _) o)).trans he, ?_⟩
  rcases hg with hg | hg
  · exact .inl hg
  · simp at hg; exact .inr (by omega)

/-- The marks that mark leaves from m on in q cells. -/
def marks (m : Int) (q : Nat) : List Int := (List.range q).map fun (j : Nat) => m + (j : Int)
theorem marks_len (m : Int) (q : Nat) : (marks m q).length = q := by simp [marks]
theorem marks_at (m : Int) (q j : Nat) (h : j < q) : (marks m q)[j]? = some (m + (j : Int)) := by
  unfold marks
  rw [List.getElem?_map, List.getElem?_range h]
  rfl

/-- Block g holds the marks from m on in its first q cells, and Z behind. -/
def Marked (w wr : World) (g : Nat) (Z : List Int) (m : Int) (q : Nat) : Prop :=
  Only g w wr ∧ (∀ o, wr.frozen? ⟨g, o, none⟩ = false) ∧
  (∀ j, j < q → wr.cell? ⟨g, j, none⟩ = some (.int .i64 (m + (j : Int)))) ∧
  (∀ j z, q ≤ j → Z[j]? = some z → wr.cell? ⟨g, j, none⟩ = some (.int .i64 z))
theorem Marked.one {w wr : World} {g : Nat} {Z : List Int} {m : Int} {q : Nat} {z u : Int} (h : Marked w wr g Z m q) (hz : Z[q]? = some z) (hu : u = m + (q : Int)) :
    Marked w (wr.setCell ⟨g, q, none⟩ (.int .i64 u)) g Z m (q + 1) := by
  subst hu
  obtain ⟨h1, h2, h3, h4⟩ := h
  refine ⟨h1.setCell _ _, fun o => by simp [h2], fun j hj => ?_, fun j z' hj hz' => ?_⟩
  · by_cases e : j = q
    · subst e
      exact World.cell?_setCell_same' _ _ _ (by rw [h4 j z (Nat.le_refl _) hz]; rfl)
    · rw [World.cell?_setCell_other _ _ _ _ (by simp <;> omega)]
      exact h3 j (by omega)
  · rw [World.cell?_setCell_other _ _ _ _ (by simp <;> omega)]
    exact h4 j z' (by omega) hz'

/-- Cell q of the first n * k. -/
theorem at_some {Z : List Int} {n k i j : Nat} (hZ : Z.length = n * k) (hi : i < n) (hj : j < k) : ∃ z, Z[i * k + j]? = some z := by
  have h1 : i * k + j < n * k := by
    have : (i + 1) * k ≤ n * k := Nat.mul_le_mul_right _ hi
    rw [Nat.add_mul, Nat.one_mul] at this
    omega
  exact ⟨Z[i * k + j]'(by omega), List.getElem?_eq_getElem _⟩

/-! A row that is being filled. -/
/-- Block g, new since w, of N cells, holds F in its first q cells. -/
def Fill (w wr : World) (g N q : Nat) (F : Nat → Int) : Prop :=
  Below w.heap.size w wr ∧ w.heap.size ≤ g ∧ g < wr.heap.size ∧ (∀ o, wr.frozen? ⟨g, o, none⟩ = false) ∧ (∀ j, j < q → wr.cell? ⟨g, j, none⟩ = some (.int .i64 (F j))) ∧ ∀ j, j < N → ∃ u, wr.cell? ⟨g, j, none⟩ = some u
theorem Fill.below {w wr w2 : World} {g N q : Nat} {F : Nat → Int} (h : Fill w wr g N q F) (hb : Below wr.heap.size wr w2) : Fill w w2 g N q F := by
  obtain ⟨h1, h2, h3, h4, h5, h6⟩ := h
  have hs := hb.size
  refine ⟨chain h1 hb, h2, by omega, fun o => by rw [hb.frozen (p := ⟨g, o, none⟩) h3]; exact h4 o, fun j hj => by rw [hb.cell (p := ⟨g, j, none⟩) h3]; exact h5 j hj, fun j hj => ?_⟩
  rw [hb.cell (p := ⟨g, j, none⟩) h3]; exact h6 j hj
theorem Fill.one {w wr : World} {g N q : Nat} {F : Nat → Int} {u : Int} (h : Fill w wr g N q F) (hq : q < N) (hu : u = F q) : Fill w (wr.setCell ⟨g, q, none⟩ (.int .i64 u)) g N (q + 1) F := by
  subst hu
  obtain ⟨h1, h2, h3, h4, h5, h6⟩ := h
  have hin : ∀ j, j < N → ∃ u, (wr.setCell ⟨g, q, none⟩ (.int .i64 (F q))).cell? ⟨g, j, none⟩ = some u := fun j hj => by
    by_cases e : j = q
    · subst e; obtain ⟨u, hu⟩ := h6 j hj; exact ⟨_, World.cell?_setCell_same' _ _ _ (by rw [hu]; rfl)⟩
    · rw [World.cell?_setCell_other _ _ _ _ (by simp <;> omega)]; exact h6 j hj
  refine ⟨h1.setCell h2 _, h2, by simpa [World.setCell] using h3, fun o => by simp [h4], fun j hj => ?_, hin⟩
  by_cases e : j = q
  · subst e; obtain ⟨u, hu⟩ := h6 j hq; exact World.cell?_setCell_same' _ _ _ (by rw [hu]; rfl)
  · rw [World.cell?_setCell_other _ _ _ _ (by simp <;> omega)]; exact h5 j (by omega)
theorem Fill.row {w wr : World} {k n cap : Nat} {g : Nat} {F : Nat → Int} (h : Fill w wr g (n * k) (n * k) F) (hn : n ≤ 1100000) : Row k wr w.heap.size wr.heap.size (.slice (some ⟨g, 0, none⟩) n cap) n ((List.range (n * k)).map F) := by
  obtain ⟨h1, h2, h3, h4, h5, h6⟩ := h
  refine ⟨by simp, .inr ⟨g, cap, rfl, h2, h3, hn, fun q z hz => ?_, h4⟩⟩
  have hq : q < n * k := by have := (List.getElem?_eq_some_iff.1 hz).1; simpa using this
  rw [List.getElem?_map, List.getElem?_range hq] at hz
  obtain rfl := Option.some.inj hz
  exact h5 q hq
theorem Fill.start {w w1 : World} {e : TypeId} {size n cap : Nat} {F : Nat → Int} {xs : List Value} (h : w1.ownsRow w.heap.size e size (.slice (some ⟨w.heap.size, 0, none⟩) n cap) n xs) (hg : w.grownBy w1 none) : Fill w w1 w.heap.size (n * size) 0 F := by
  refine ⟨(Below.refl _ _).grown hg (Nat.le_refl _) (fun k hk => by cases hk), Nat.le_refl _, (h.lt w.heap.size rfl).2, fun o => h.frozenAt o, fun j hj => absurd hj (Nat.not_lt_zero _), fun j hj => ?_⟩
  have hl : j < xs.length := by rw [h.1]; exact hj
  exact ⟨xs[j], by rw [h.cellAt j hj]; exact List.getElem?_eq_getElem hl⟩

/-! Arguments -/

/-- A type all of whose cells are ints of 64 bits. -/
def intTy (P : Program) : Nat → TypeId → Bool
  | 0, _ => false
  | d + 1, t => match P.underlying t with
    | some (.int .i64) => true
    | some (.struct fs) => fs.toList.all (fun f => intTy P d f.type) && (List.range (P.cellsOf t)).all fun i => fs.toList.any fun f => decide (f.offset ≤ i ∧ i < f.offset + P.cellsOf f.type)
    | _ => false

/-- An int of 64 bits. -/
def I64 (z : Int) : Prop := -9223372036854775808 ≤ z ∧ z ≤ 9223372036854775807
theorem i64_of {z : Int} (h : (Lit.int .i64 z).wf = true) : I64 z := by
  simp [Lit.wf, show IntKind.i64.min = -9223372036854775808 from rfl] at h
  exact ⟨by omega, by omega⟩

section
variable {H : Type} {enc : TypeId × Value → H} {P : Program} {w : World} {base : Nat} {spare : Nat → Bool} {held : Bool}

theorem trod_ints : ∀ (d : Nat) (t : TypeId) (fuel : Nat) (cs : List Value) (x : DataW H × List MemPlace), intTy P d t = true → DataW.trod enc P w base spare held fuel t cs = some x →
    ∀ (i : Nat) (v : Value), cs[i]? = some v → ∃ z, v = .int .i64 z ∧ I64 z
  | 0, _, _, _, _, h, _ => by simp [intTy] at h
  | d + 1, t, fuel, cs, x, h, hx => by
    intro i v hv
    unfold intTy at h
    split at h
    · rename_i hu
      obtain ⟨n, rfl, _, hw⟩ := DataW.trod_int hu hx
      rcases i with _ | i
      · simp at hv
        exact ⟨n, hv.symm, i64_of hw⟩
      · simp at hv
    · rename_i fs hu
      simp only [Bool.and_eq_true, List.all_eq_true] at h
      obtain ⟨xs, n, _, _, hlen, hxs, hf⟩ := DataW.trod_struct hu hx
      have hi : i < cs.length := (List.getElem?_eq_some_iff.1 hv).1
      have hcov := h.2 i (by rw [List.mem_range]; omega)
      rw [List.any_eq_true] at hcov
      obtain ⟨f, hfm, hfi⟩ := hcov
      simp only [decide_eq_true_eq] at hfi
      obtain ⟨j, hj⟩ := List.getElem?_of_mem hfm
      have hj' : fs[j]? = some f := by simpa using hj
      have htr := hf j f hj'
      have hjl : j < xs.length := by rw [hxs]; exact (Array.getElem?_eq_some_iff.1 hj').1
      rw [List.getElem?_eq_getElem hjl] at htr
      refine trod_ints d f.type n _ _ (h.1 f hfm) htr (i - f.offset) v ?_
      rw [List.getElem?_take, if_pos (by omega), List.getElem?_drop, show f.offset + (i - f.offset) = i by omega]
      exact hv
    · cases h

/-- A struct of ints, by value. -/
theorem open_istruct {t : TypeId} {fs : Array Field} {r : Reach} {b0 d : Nat} {v : Value} {dd : DataW H} {p : List MemPlace} (hs : P.underlying t = some (.struct fs)) (hi : intTy P d t = true)
    (hv : Value.okWide P w r b0 t v) (h : DataW.Trod enc P w base spare held t v dd p) :
    ∃ cs : Array Value, v = .agg cs ∧ cs.size = P.cellsOf t ∧ ∀ (i : Nat) (u : Value), cs[i]? = some u → ∃ z, u = .int .i64 z ∧ I64 z := by
  obtain ⟨cs, rfl, hsz⟩ := okWide_struct hs hv
  obtain ⟨fuel, hf⟩ := h
  refine ⟨cs, rfl, hsz, fun i u hu => trod_ints d t fuel _ _ hi hf i u ?_⟩
  simpa [Value.cells] using hu

/-- A slice argument of structs of ints: n elements of k cells, cell q is Z q. -/
def Arg (k : Nat) (w : World) (v : Value) (n : Nat) (Z : Nat → Int) : Prop :=
  (∀ q, q < n * k → I64 (Z q)) ∧ n ≤ maxLen ∧ ((n = 0 ∧ ∃ a c, v = .slice a 0 c) ∨
  ∃ b off cap, v = .slice (some ⟨b, off, none⟩) n cap ∧ b < w.heap.size ∧ ∀ q, q < n * k → w.cell? ⟨b, off + q, none⟩ = some (.int .i64 (Z q)))

theorem lt_of_cell {w : World} {a : Addr} {v : Value} (h : w.cell? a = some v) : a.block < w.heap.size ∧ a.spot = none := by
  unfold World.cell? at h
  split at h
  · rename_i hb
    refine ⟨(Array.getElem?_eq_some_iff.1 hb).1, ?_⟩
    split at h
    · cases h
    · rename_i hs; cases hh : a.spot <;> simp_all
  · cases h

theorem open_islice {t e : TypeId} {fuel k d : Nat} {cs : List Value} {x : DataW H × List MemPlace} (ht : P.underlying t = some (.slice e)) (hi : intTy P d e = true) (hk : P.cellsOf e = k) (hk0 : 0 < k)
    (h : DataW.trod enc P w base spare held fuel t cs = some x) : ∃ v n Z, cs = [v] ∧ Arg k w v n Z := by
  rcases Deep.open_slice ht h with ⟨rfl, _⟩ | ⟨a, len, cap, m, n, D, Pl, rfl, hb, hl, hm, hmm, _, hel⟩
  · exact ⟨_, 0, fun _ => 0, rfl, fun q hq => by omega, Nat.zero_le _, .inl ⟨rfl, none, 0, rfl⟩⟩
  · have hlm : len ≤ m := by rw [hmm]; split <;> omega
    have hcell : ∀ q, q < len * k → ∃ z, w.cell? (a.add q) = some (.int .i64 z) ∧ I64 z := by
      intro q hq
      have hq1 : q / k < len := Nat.div_lt_of_lt_mul (by rw [Nat.mul_comm]; exact hq)
      obtain ⟨cs', hc, htr⟩ := hel (q / k) (by omega)
      rw [hk] at hc
      obtain ⟨_, hcl, hat⟩ := World.cells?_some hc
      have hqk : q % k < k := Nat.mod_lt _ hk0
      have hv : cs'[q % k]? = some (cs'[q % k]'(by omega)) := List.getElem?_eq_getElem _
      obtain ⟨z, hz, hiz⟩ := trod_ints d e n _ _ hi htr _ _ hv
      refine ⟨z, ?_, hiz⟩
      have := hat (q % k) hqk
      rw [Deep.add_add, hv, hz, show q / k * k + q % k = q by rw [Nat.mul_comm]; exact Nat.div_add_mod q k] at this
      exact this
    obtain ⟨Z, hZ⟩ := Deep.choose_lt hcell
    refine ⟨_, len, Z, rfl, fun q hq => (hZ q hq).2, by omega, ?_⟩
    by_cases h0 : len = 0
    · subst h0; exact .inl ⟨rfl, _, _, rfl⟩
    · have h00 := (hZ 0 (Nat.mul_pos (by omega) hk0)).1
      obtain ⟨hlt, hsp⟩ := lt_of_cell h00
      obtain ⟨b, off, spot⟩ := a
      simp [Addr.add] at hlt hsp
      subst hsp
      refine .inr ⟨b, off, cap, rfl, hlt, fun q hq => ?_⟩
      have := (hZ q hq).1
      unfold Addr.add at this
      split at this
      · rename_i e; subst e; simpa using this
      · exact this
end

theorem Arg.below {k : Nat} {w w' : World} {v : Value} {n : Nat} {Z : Nat → Int} (h : Arg k w v n Z) (hb : Below w.heap.size w w') : Arg k w' v n Z := by
  obtain ⟨h0, h1, h⟩ := h
  refine ⟨h0, h1, ?_⟩
  rcases h with h | ⟨b, off, cap, rfl, hlt, hc⟩
  · exact .inl h
  · have := hb.size
    exact .inr ⟨b, off, cap, rfl, by omega, fun q hq => by rw [hb.cell (p := ⟨b, off + q, none⟩) hlt]; exact hc q hq⟩
theorem Arg.slice {k : Nat} {w : World} {v : Value} {n : Nat} {Z : Nat → Int} (h : Arg k w v n Z) : ∃ a c, v = .slice a n c := by
  rcases h.2.2 with ⟨rfl, a, c, rfl⟩ | ⟨g, off, cap, rfl, _⟩
  · exact ⟨a, c, rfl⟩
  · exact ⟨_, cap, rfl⟩

end Go.Proofs.Ytnaifkmganngfaa
