/- Rows of one's own; the steps of a series as a list of numbers. -/
import Derived.Test.YtadanckhmjgphaaS1
import Derived.Lib.SmallJoins
import Derived.Deep.AppendLies
import Derived.Deep.RegionLaw
namespace Go.Proofs.Ytadanckhmjgphaa
open Go.RowKit


def ints (Z : List Int) : List Value := Z.map fun z => .int .i64 z
theorem ints_app (Y Z : List Int) : ints (Y ++ Z) = ints Y ++ ints Z := by simp [ints]
theorem ints_len (Z : List Int) : (ints Z).length = Z.length := by simp [ints]
theorem ints_at {Z : List Int} {q : Nat} {z : Int} (h : Z[q]? = some z) : (ints Z)[q]? = some (.int .i64 z) := by simp [ints, h]
theorem add_none (g j : Nat) : (⟨g, 0, none⟩ : Addr).add j = ⟨g, j, none⟩ := by unfold Addr.add; split <;> simp_all
theorem own_slice {w : World} {b0 n k : Nat} {e : TypeId} {v : Value} {xs : List Value} (h : w.ownsRow b0 e k v n xs) : ∃ a c, v = .slice a n c := by
  rcases h.2 with ⟨rfl, h2⟩ | ⟨g, cap, cur, rfl, _⟩
  · exact ⟨none, 0, by rw [h2]⟩
  · exact ⟨_, cap, rfl⟩
theorem row_of_own {w : World} {base n k : Nat} {e : TypeId} {v : Value} {Z : List Int} (h : w.ownsRow base e k v n (ints Z)) (hl : n ≤ 1100000) : Row k w base w.heap.size v n Z := by
  have hlt := h.lt
  have hcells := fun g hg => h.cells (g := g) hg
  obtain ⟨h1, h2⟩ := h
  rw [ints_len] at h1
  refine ⟨h1, ?_⟩
  rcases h2 with ⟨rfl, h3⟩ | ⟨g, cap, cur, rfl, h3, h4, h5, h6, h7, h8⟩
  · exact .inl ⟨h3, none, 0, rfl⟩
  · obtain ⟨_, hg⟩ := hlt g rfl
    refine .inr ⟨g, cap, rfl, h3, hg, hl, fun q z hz => ?_, fun o => ?_⟩
    · have c0 := hcells g rfl _ _ (ints_at hz)
      rw [add_none] at c0
      exact c0
    · simp [World.frozen?, h4]
/-- A row of one's own, of elements of k integers: v holds Z; what was there at w is kept. -/
structure OwnR (T : TypeId) (k : Nat) (w wr : World) (v : Value) (n : Nat) (Z : List Int) : Prop where
  below : Below w.heap.size w wr
  row : wr.ownsRow w.heap.size T k v n (ints Z)
theorem OwnR.nil (T : TypeId) (k : Nat) (w : World) : OwnR T k w w (.slice none 0 0) 0 [] := ⟨Below.refl _ _, World.ownsRow_nil _ _ _ _⟩
theorem OwnR.grow {T : TypeId} {k : Nat} {w wr w2 : World} {v : Value} {n : Nat} {Z : List Int} (h : OwnR T k w wr v n Z) (b : Below wr.heap.size wr w2) : OwnR T k w w2 v n Z :=
  ⟨h.below.trans (b.mono h.below.size), h.row.kept (row := none) ⟨b.os, b.tape, b.output, b.size, fun j hj _ => b.block j hj⟩ (by cases hv : v.ownBlock <;> simp)⟩
theorem below_drewN (w : World) (k : Nat) : Below w.heap.size w (w.drewN k) := ⟨rfl, rfl, rfl, Nat.le_refl _, fun _ _ => rfl⟩
theorem OwnR.app {T : TypeId} {k : Nat} {w wr w4 : World} {v v' : Value} {n : Nat} {Z Z1 : List Int} (h : OwnR T k w wr v n Z) (hg : wr.grownBy w4 v.ownBlock) (hr : w4.ownsRow w.heap.size T k v' (n + 1) (ints Z ++ ints Z1)) : OwnR T k w w4 v' (n + 1) (Z ++ Z1) := by
  have hs := h.below.size
  have b := h.below
  refine ⟨⟨hg.os.trans b.os, hg.tape.trans b.tape, hg.output.trans b.output, Nat.le_trans hs hg.size, fun k hk => (hg.block k (by omega) (fun e => ?_)).trans (b.block k hk)⟩, by rw [ints_app]; exact hr⟩
  have := (h.row.lt k e.symm).1
  omega
theorem OwnR.toRow {T : TypeId} {k : Nat} {w wr : World} {v : Value} {n : Nat} {Z : List Int} (h : OwnR T k w wr v n Z) (hl : n ≤ 1100000) : Row k wr w.heap.size wr.heap.size v n Z := row_of_own h.row hl
theorem OwnR.lit0 (T : TypeId) (k : Nat) (w : World) : OwnR T k w (w.alloc (.cells #[] T)) (.slice (some ⟨w.heap.size, 0, none⟩) 0 0) 0 [] :=
  ⟨(Below.refl _ _).alloc (Nat.le_refl _) _, ⟨by simp [ints], .inr ⟨_, 0, #[], rfl, Nat.le_refl _, heap_alloc_new w (.cells #[] T), Nat.zero_le _, by simp, by simp, by simp [ints]⟩⟩⟩
theorem cells_new (w : World) (xs : List Int) (T : TypeId) {B : Nat} (hB : B = w.heap.size) (j : Nat) (u : Value) (h : (ints xs)[j]? = some u) : (w.alloc (.cells (ints xs).toArray T)).cell? ((⟨B, 0, none⟩ : Addr).add j) = some u := by
  subst hB
  rw [add_none, new_at rfl]
  simpa using h
theorem ints_one (Z : List Int) : ∀ u ∈ ints Z, u.oneCell' = true := by
  intro u hu
  unfold ints at hu
  obtain ⟨z, _, rfl⟩ := List.mem_map.1 hu
  rfl

/-- The steps that lead to samples 1 .. k - 1, each of seven numbers. -/
def stpK (L : List Sm) : Nat → List Int
  | 0 => []
  | k + 1 => if k = 0 then [] else stpK L k ++ [(L.getD (k - 1) s0).1, (L.getD (k - 1) s0).2.1, (L.getD (k - 1) s0).2.2, (L.getD k s0).1, (L.getD k s0).2.1, (L.getD k s0).2.2, (k : Int)]
theorem stpK_one (L : List Sm) : stpK L 1 = [] := rfl
theorem stpK_next {L : List Sm} {q : Nat} {p r : Sm} (hp : L[q]? = some p) (hr : L[q + 1]? = some r) : stpK L (q + 2) = stpK L (q + 1) ++ [p.1, p.2.1, p.2.2, r.1, r.2.1, r.2.2, (q : Int) + 1] := by
  show (if _ then _ else _) = _
  rw [if_neg (by omega), getD_of hr, show q + 1 - 1 = q by omega, getD_of hp]
  rfl
theorem stpK_len (L : List Sm) : ∀ k, (stpK L (k + 1)).length = k * 7
  | 0 => rfl
  | k + 1 => by
    show (if _ then _ else _ : List Int).length = _
    rw [if_neg (by omega), List.length_append, stpK_len L k]
    simp only [List.length_cons, List.length_nil]
    omega
theorem stpK_at {L : List Sm} {q : Nat} {p r : Sm} (hp : L[q]? = some p) (hr : L[q + 1]? = some r) : ∀ d c, c < 7 → (stpK L (q + 2 + d))[q * 7 + c]? = [p.1, p.2.1, p.2.2, r.1, r.2.1, r.2.2, (q : Int) + 1][c]?
  | 0, c, hc => by
    show (stpK L (q + 2))[q * 7 + c]? = _
    rw [stpK_next hp hr, List.getElem?_append_right (by rw [stpK_len]; omega), stpK_len, show q * 7 + c - q * 7 = c by omega]
  | d + 1, c, hc => by
    show (if q + 2 + d = 0 then [] else stpK L (q + 2 + d) ++ [(L.getD (q + 2 + d - 1) s0).1, (L.getD (q + 2 + d - 1) s0).2.1, (L.getD (q + 2 + d - 1) s0).2.2, (L.getD (q + 2 + d) s0).1, (L.getD (q + 2 + d) s0).2.1, (L.getD (q + 2 + d) s0).2.2, ((q + 2 + d : Nat) : Int)] : List Int)[q * 7 + c]? = _
    rw [if_neg (by omega)]
    have e : q + 2 + d = (q + 1 + d) + 1 := by omega
    rw [List.getElem?_append_left (by rw [e, stpK_len]; omega)]
    exact stpK_at hp hr d c hc

theorem Try.info27s : (Try.prog.info? 27).map (fun i => (i.zero, i.size, i.bytes)) = some (some (.agg #[.int .i64 0, .int .i64 0, .int .i64 0]), 3, 24) := by kernel_rfl
theorem Try.info86s : (Try.prog.info? 86).map (fun i => (i.zero, i.size, i.bytes)) = some (some (.agg #[.int .i64 0, .int .i64 0, .int .i64 0, .int .i64 0, .int .i64 0, .int .i64 0, .int .i64 0]), 7, 56) := by kernel_rfl

end Go.Proofs.Ytadanckhmjgphaa
