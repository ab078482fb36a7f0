/- Edges that are deleted: what the loop keeps. -/
import Derived.Test.YtkkfgnnhdcmmjabW14
import Derived.Laws.IdiomCopy
namespace Go.Proofs.Ytkkfgnnhdcmmjab
open Go.RowKit


theorem zeroCells_mem {zs : Array Value} {n : Nat} {v : Value} (hz : 0 < zs.size) (h : v ∈ (Builtin.zeroCells zs n).toList) : v ∈ zs.toList := by
  simp [Builtin.zeroCells] at h
  obtain ⟨i, _, rfl⟩ := h
  have hi : i % zs.size < zs.size := Nat.mod_lt _ hz
  rw [getElem!_pos zs (i % zs.size) hi]
  exact Array.getElem_mem_toList _
theorem zeroCells_len (zs : Array Value) (n : Nat) : (Builtin.zeroCells zs n).toList.length = n * zs.size := by simp [Builtin.zeroCells]
theorem run_clear3 {P : Program} (w : World) (t e ty : TypeId) (z : Value) (ht : P.underlying t = some (.slice e)) (hv : ∀ w, (zeroValue e).run P w = .ok z w) (hz : 0 < z.cells.size) (h1 : ∀ v ∈ z.cells.toList, v.oneCell' = true) (b o n c : Nat) (hn : 0 < n)
    (hc : ∀ j, j < n * z.cells.size → (w.cell? ⟨b, o + j, none⟩).isSome = true) (hf : ∀ j, j < n * z.cells.size → w.frozen? ⟨b, o + j, none⟩ = false) :
    (Builtin.clear_ #[t] ty #[.slice (some ⟨b, o, none⟩) n c]).run P w = .ok (.tuple #[]) (w.setCells b o (Builtin.zeroCells z.cells n).toList) := by
  have hl := zeroCells_len z.cells n
  have hst := run_storeCells_cells (P := P) b o (Builtin.zeroCells z.cells n).toList 0 w (by rw [hl]; simpa using hc) (by rw [hl]; simpa using hf) (fun v hv' => h1 v (zeroCells_mem hz hv'))
  simp only [Nat.add_zero] at hst
  obtain ⟨m, rfl⟩ : ∃ m, n = m + 1 := ⟨n - 1, by omega⟩
  simp [Builtin.clear_, run_underlying ht, hv, hst]
theorem Try.zero56 : ∀ w, (zeroValue 56).run Try.prog w = .ok (.agg #[.int .i64 0, .int .i64 0, .int .i64 0]) w := fun _ => by kernel_rfl

theorem Else.setCell {g : Nat} {w w' : World} (h : Else g w w') (o : Nat) (u : Value) : Else g w (w'.setCell ⟨g, o, none⟩ u) :=
  ⟨h.1, h.2.1, h.2.2.1, by simpa [World.setCell] using h.2.2.2.1, fun b hb hg => by rw [Below.heap_setCell _ _ _ _ hg]; exact h.2.2.2.2 b hb hg⟩
theorem Else.setCells {g : Nat} {w : World} : ∀ (vs : List Value) (o : Nat) {w' : World}, Else g w w' → Else g w (w'.setCells g o vs)
  | [], _, _, h => h
  | v :: r, o, _, h => Else.setCells r (o + 1) (h.setCell o v)
/-- While the edges that stay are moved ahead: A stands in front, of L what comes from j on is as it was. -/
def DRel (w wr : World) (G n : Nat) (A : List Ed) (j : Nat) (L : List Ed) : Prop :=
  Else G w wr ∧ (∀ o, wr.frozen? ⟨G, o, none⟩ = false) ∧ (∀ q z, (flat A)[q]? = some z → wr.cell? ⟨G, q, none⟩ = some (.int .i64 z)) ∧ (∀ q z, j * 3 ≤ q → (flat L)[q]? = some z → wr.cell? ⟨G, q, none⟩ = some (.int .i64 z)) ∧ (∀ q, q < n * 3 → ∃ u, wr.cell? ⟨G, q, none⟩ = some u) ∧ G < wr.heap.size
theorem DRel.below {w wr w2 : World} {G n j : Nat} {A L : List Ed} (h : DRel w wr G n A j L) (hb : Below wr.heap.size wr w2) : DRel w w2 G n A j L := by
  obtain ⟨h1, h2, h3, h4, h5, h6⟩ := h
  have hs := hb.size
  have hc : ∀ q, w2.cell? ⟨G, q, none⟩ = wr.cell? ⟨G, q, none⟩ := fun q => hb.cell (p := ⟨G, q, none⟩) h6
  exact ⟨h1.trans (Else.of_below hb), fun o => by rw [hb.frozen (p := ⟨G, o, none⟩) h6]; exact h2 o, fun q z hz => by rw [hc]; exact h3 q z hz, fun q z hq hz => by rw [hc]; exact h4 q z hq hz, fun q hq => by rw [hc]; exact h5 q hq, by omega⟩
theorem DRel.next {w wr : World} {G n j : Nat} {A L : List Ed} (h : DRel w wr G n A j L) : DRel w wr G n A (j + 1) L :=
  ⟨h.1, h.2.1, h.2.2.1, fun q z hq hz => h.2.2.2.1 q z (by omega) hz, h.2.2.2.2⟩
theorem DRel.put {w wr : World} {G n i j : Nat} {A L : List Ed} {a b c : Int} (h : DRel w wr G n A j L) (hA : i = A.length) (hij : i < j) (hjn : j < n) :
    DRel w (((wr.setCell ⟨G, i * 3, none⟩ (.int .i64 a)).setCell ⟨G, i * 3 + 1, none⟩ (.int .i64 b)).setCell ⟨G, i * 3 + 2, none⟩ (.int .i64 c)) G n (A ++ [(a, b, c)]) (j + 1) L := by
  subst hA
  obtain ⟨h1, h2, h3, h4, h5, h6⟩ := h
  obtain ⟨u0, g0⟩ := h5 (A.length * 3) (by omega)
  obtain ⟨u1, g1⟩ := h5 (A.length * 3 + 1) (by omega)
  obtain ⟨u2, g2⟩ := h5 (A.length * 3 + 2) (by omega)
  have far : ∀ q, q ≠ A.length * 3 → q ≠ A.length * 3 + 1 → q ≠ A.length * 3 + 2 → (((wr.setCell ⟨G, A.length * 3, none⟩ (.int .i64 a)).setCell ⟨G, A.length * 3 + 1, none⟩ (.int .i64 b)).setCell ⟨G, A.length * 3 + 2, none⟩ (.int .i64 c)).cell? ⟨G, q, none⟩ = wr.cell? ⟨G, q, none⟩ := fun q n0 n1 n2 => by
    rw [World.cell?_setCell_other _ _ _ _ (by simp <;> omega), World.cell?_setCell_other _ _ _ _ (by simp <;> omega), World.cell?_setCell_other _ _ _ _ (by simp <;> omega)]
  have e0 : (((wr.setCell ⟨G, A.length * 3, none⟩ (.int .i64 a)).setCell ⟨G, A.length * 3 + 1, none⟩ (.int .i64 b)).setCell ⟨G, A.length * 3 + 2, none⟩ (.int .i64 c)).cell? ⟨G, A.length * 3, none⟩ = some (.int .i64 a) := by
    rw [World.cell?_setCell_other _ _ _ _ (by simp), World.cell?_setCell_other _ _ _ _ (by simp)]
    exact World.cell?_setCell_same' _ _ _ (by rw [g0]; rfl)
  have e1 : (((wr.setCell ⟨G, A.length * 3, none⟩ (.int .i64 a)).setCell ⟨G, A.length * 3 + 1, none⟩ (.int .i64 b)).setCell ⟨G, A.length * 3 + 2, none⟩ (.int .i64 c)).cell? ⟨G, A.length * 3 + 1, none⟩ = some (.int .i64 b) := by
    rw [World.cell?_setCell_other _ _ _ _ (by simp)]
    exact World.cell?_setCell_same' _ _ _ (by rw [World.cell?_setCell_other _ _ _ _ (by simp), g1]; rfl)
  have e2 : (((wr.setCell ⟨G, A.length * 3, none⟩ (.int .i64 a)).setCell ⟨G, A.length * 3 + 1, none⟩ (.int .i64 b)).setCell ⟨G, A.length * 3 + 2, none⟩ (.int .i64 c)).cell? ⟨G, A.length * 3 + 2, none⟩ = some (.int .i64 c) :=
    World.cell?_setCell_same' _ _ _ (by rw [World.cell?_setCell_other _ _ _ _ (by simp), World.cell?_setCell_other _ _ _ _ (by simp), g2]; rfl)
  refine ⟨((h1.setCell _ _).setCell _ _).setCell _ _, fun o => by simp [h2], fun q z hz => ?_, fun q z hq hz => ?_, fun q hq => ?_, by simpa [World.setCell] using h6⟩
  · rw [flat_app, flat_one, List.getElem?_append] at hz
    have hfl := flat_len A
    split at hz
    · rename_i hlt
      rw [far q (by omega) (by omega) (by omega)]; exact h3 q z hz
    · rename_i hge
      obtain ⟨d, hd⟩ : ∃ d, q = A.length * 3 + d := ⟨q - A.length * 3, by omega⟩
      subst hd
      rw [hfl, show A.length * 3 + d - A.length * 3 = d by omega] at hz
      rcases d with _ | _ | _ | d
      · simp at hz; subst hz; exact e0
      · simp at hz; subst hz; exact e1
      · simp at hz; subst hz; exact e2
      · simp at hz
  · rw [far q (by omega) (by omega) (by omega)]; exact h4 q z (by omega) hz
  · by_cases n0 : q = A.length * 3
    · subst n0; exact ⟨_, e0⟩
    · by_cases n1 : q = A.length * 3 + 1
      · subst n1; exact ⟨_, e1⟩
      · by_cases n2 : q = A.length * 3 + 2
        · subst n2; exact ⟨_, e2⟩
        · rw [far q n0 n1 n2]; exact h5 q hq
/-- What DeleteFunc leaves. -/
def DelEnd (w w' : World) (G : Nat) (F : List Ed) : Prop := Else G w w' ∧ (∀ o, w'.frozen? ⟨G, o, none⟩ = false) ∧ (∀ q z, (flat F)[q]? = some z → w'.cell? ⟨G, q, none⟩ = some (.int .i64 z)) ∧ G < w'.heap.size
theorem DRel.done {w wr : World} {G n j i : Nat} {A L : List Ed} (h : DRel w wr G n A j L) (hA : i = A.length) (vs : List Value) : DelEnd w (wr.setCells G (i * 3) vs) G A := by
  subst hA
  refine ⟨Else.setCells vs _ h.1, fun o => by rw [World.frozen?_setCells]; exact h.2.1 o, fun q z hz => ?_, ?_⟩
  · have hq : q < (flat A).length := (List.getElem?_eq_some_iff.1 hz).1
    rw [flat_len] at hq
    rw [World.cell?_setCells_out _ _ _ _ _ (fun _ _ => Or.inl (by simpa using hq))]
    exact h.2.2.1 q z hz
  · have hs := (Else.setCells vs (A.length * 3) (Else.of_below (Below.refl wr.heap.size wr)) (g := G)).2.2.2.1
    have := h.2.2.2.2.2
    omega
theorem DelEnd.drewN {w w' : World} {G : Nat} {F : List Ed} (h : DelEnd w w' G F) (q : Nat) : DelEnd w (w'.drewN q) G F := ⟨⟨h.1.1, h.1.2.1, h.1.2.2.1, h.1.2.2.2.1, h.1.2.2.2.2⟩, h.2⟩

end Go.Proofs.Ytkkfgnnhdcmmjab
