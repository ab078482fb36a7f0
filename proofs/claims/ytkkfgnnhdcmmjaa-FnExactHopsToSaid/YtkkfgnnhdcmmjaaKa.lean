/- The program's iterator over the last steps of all shortest paths: what it yields, what a round must keep. -/
import Derived.RangeFuncNested
import Derived.RangeFuncBound
import Derived.RangeFuncCalls
import Derived.RangeFuncLeaves
import Derived.OwnWalkIn
import Derived.Test.YtkkfgnnhdcmmjaaW26
import Derived.Test.YtkkfgnnhdcmmjaaTl
import Derived.Test.YtkkfgnnhdcmmjaaMp
namespace Go.Proofs.Ytkkfgnnhdcmmjaa
open Go.RowKit

/-- A step: two nodes. -/
abbrev Pr := { p : Int × Int // (0 ≤ p.1 ∧ p.1 < 10) ∧ (0 ≤ p.2 ∧ p.2 < 10) ∧ p.1 ≠ p.2 }
def encP (x : Pr) : Array Value := #[.int .i64 x.1.1, .int .i64 x.1.2]
/-- What a round that goes on keeps: all cells but those of the blocks X. -/
def KpX (X : Nat → Prop) (W W' : World) : Prop := W.heap.size ≤ W'.heap.size ∧ ∀ k o, ¬ X k → W.heap[k]? = some o → o.isCells = true → W'.heap[k]? = some o
theorem KpX.t {X : Nat → Prop} {A B C : World} (h : KpX X A B) (k : KpX X B C) : KpX X A C := ⟨Nat.le_trans h.1 k.1, fun i o hi ho hc => k.2 i o hi (h.2 i o hi ho hc) hc⟩
theorem KpX.b {X : Nat → Prop} {m : Nat} (W : World) (l : Nat) (o o' : Obj) (_ : m ≤ l) (h : W.heap[l]? = some o) (hc : o.isCells = false) (_ : o.isWalk = false) : KpX X W (W.putObj l o') :=
  ⟨(grownBy_putObj' W l o').size, fun k p _ hk hp => by
    rw [(grownBy_putObj' W l o').block k (Array.getElem?_eq_some_iff.1 hk).1 (fun e => by cases e; rw [h] at hk; cases hk; rw [hc] at hp; cases hp)]; exact hk⟩
theorem blk_lt {w : World} {a : Addr} {v : Value} (h : w.cell? a = some v) : a.block < w.heap.size := by
  unfold World.cell? at h
  cases ho : w.heap[a.block]? with
  | none => simp [ho] at h
  | some o => exact (Array.getElem?_eq_some_iff.1 ho).1
theorem cells_of_cell {W : World} {p : Addr} {v : Value} (h : W.cell? p = some v) : ∃ o : Obj, W.heap[p.block]? = some o ∧ o.isCells = true := by
  unfold World.cell? at h
  cases ho : W.heap[p.block]? with
  | none => simp [ho] at h
  | some o => exact ⟨o, rfl, by cases o <;> simp_all [Obj.isCells]⟩
theorem KpX.cell {X : Nat → Prop} {W W' : World} (h : KpX X W W') {p : Addr} (hp : ¬ X p.block) {v : Value} (hv : W.cell? p = some v) : W'.cell? p = some v := by
  obtain ⟨o, ho, hc⟩ := cells_of_cell hv
  have := h.2 _ _ hp ho hc
  rw [World.cell?_of_block (w := W) (this.trans ho.symm)]
  exact hv
theorem KpX.refl (X : Nat → Prop) (W : World) : KpX X W W := ⟨Nat.le_refl _, fun _ _ _ h _ => h⟩
theorem KpX.of_grown {X : Nat → Prop} {W W' : World} {r : Option Nat} (h : W.grownBy W' r) (hr : ∀ k, r = some k → X k) : KpX X W W' :=
  ⟨h.size, fun k _ hk ho _ => (h.block k (Array.getElem?_eq_some_iff.1 ho).1 (fun e => hk (hr k e.symm))).trans ho⟩
theorem grown_of_below {W W' : World} (h : Below W.heap.size W W') : W.grownBy W' none := ⟨h.os, h.tape, h.output, h.size, fun k hk _ => h.block k hk⟩
theorem AbidesFrom.below {β : Type} {B : Nat} {J : β → World → Prop} (h : AbidesFrom B J) {s : β} {W W' : World} (hs : J s W) (hb : Below W.heap.size W W') : J s W' := h s W W' none hs (grown_of_below hb) (fun _ e => by cases e)
theorem storeIn_row {F : Fence} {n : Nat} {P : Program} {ops : Array Oper} {rest : List Oper} {o : Oper} {a : Act} {w : World} {Q : Exit → Act → World → Prop} (hgd : o.guard = none) (ty : TypeId) (x y : Operand) (ho : o.op = .store ty x y)
    (hd : o.dst = none) (g : Nat) (cells : Array Value) (hx : a.eval x = .pointer (some ⟨g, 0, none⟩)) (hy : a.eval y = .agg cells)
    (t : TypeId) (old : Array Value) (hg : w.heap[g]? = some (.cells old t (0, 0))) (hi : (P.info? ty).map (·.size) = some cells.size)
    (hold : old.size = cells.size) (h1 : cells.all (·.oneCell') = true)
    (h : wpListIn F n P ops Q rest a (w.setRow g cells)) : wpListIn F n P ops Q (o :: rest) a w := by
  refine wpListIn_plain hgd fun K hK => ?_
  unfold Oper.wpIn
  refine ⟨?_, ?_⟩
  · simp [Oper.about, ho]
  · rw [Oper.semAt_plain F _ _ (by rw [ho]; intro c hc'; cases hc')]
    simp only [execOp, ho, hx, hy, Instr.storeAt, Instr.sureAddr, Sem.run_bind, Sem.run_pure, Result.andThen_ok, run_storeVar_row w g t ty old cells hg hi hold h1, Oper.uponIn]
    rw [hd]
    exact hK _ _ h
/-- What the iterator reads between two rounds: the costs, the trails, their last nodes; all of it lies at or beyond B. -/
structure ItM (wr : World) (B bc g : Nat) (L : List Ed) (P : List TV) : Prop where
  lo : B ≤ bc ∧ B ≤ g
  cs : ∀ x y : Nat, x < 10 → y < 10 → wr.cell? ⟨bc, x * 10 + y, none⟩ = some (.int .i64 (cst L x y))
  tr : ∀ (k : Nat) (t : TV), P[k]? = some t → wr.cell? ⟨g, k * 2, none⟩ = some (.int .i64 t.c) ∧ wr.cell? ⟨g, k * 2 + 1, none⟩ = some (.slice (some ⟨t.g, 0, none⟩) t.ns.length t.cap)
  la : ∀ (k : Nat) (t : TV), P[k]? = some t → B ≤ t.g ∧ 0 < t.ns.length ∧ t.ns.length ≤ 1000 ∧ wr.cell? ⟨t.g, t.ns.length - 1, none⟩ = some (.int .i64 (lastN t.key))
theorem ItM.keep {w w' : World} {B bc g : Nat} {L : List Ed} {P : List TV} (h : ItM w B bc g L P) (hk : ∀ (p : Addr) (v : Value), B ≤ p.block → w.cell? p = some v → w'.cell? p = some v) : ItM w' B bc g L P :=
  ⟨h.lo, fun x y hx hy => hk _ _ h.lo.1 (h.cs x y hx hy), fun k t ht => ⟨hk _ _ h.lo.2 (h.tr k t ht).1, hk _ _ h.lo.2 (h.tr k t ht).2⟩, fun k t ht => ⟨(h.la k t ht).1, (h.la k t ht).2.1, (h.la k t ht).2.2.1, hk _ _ (h.la k t ht).1 (h.la k t ht).2.2.2⟩⟩
theorem ItM.below {w w' : World} {B bc g : Nat} {L : List Ed} {P : List TV} (h : ItM w B bc g L P) (hb : Below w.heap.size w w') : ItM w' B bc g L P :=
  h.keep fun _ _ _ hv => (hb.cell (blk_lt hv)).trans hv
theorem ItM.kp {w w' : World} {B bc g : Nat} {L : List Ed} {P : List TV} {X : Nat → Prop} (h : ItM w B bc g L P) (hb : KpX X w w') (hX : ∀ k, X k → k < B) : ItM w' B bc g L P :=
  h.keep fun _ _ hp hv => hb.cell (fun hx => by have := hX _ hx; omega) hv
theorem rowS_len (L : List Ed) (t : Tr) (Q : List Tr) : (rowS L t Q).length ≤ Q.length := by unfold rowS; rw [List.length_map]; exact List.length_filter_le _ _
theorem prsK_len (L : List Ed) (P : List Tr) (hP : P.length ≤ 10) : ∀ i, i ≤ P.length → (prsK L P i).length ≤ i * 10
  | 0, _ => by simp [prsK]
  | i + 1, h => by
    have h1 := prsK_len L P hP i (by omega)
    have h2 : P[i]? = some (P[i]'(by omega)) := List.getElem?_eq_getElem _
    rw [prsK_succ h2, List.length_append]
    have h3 := rowS_len L (P[i]'(by omega)) (P.take i)
    have h4 : (P.take i).length ≤ 10 := by rw [List.length_take]; omega
    omega
theorem Found.node {N : Int} {L : List Ed} {s : Int} {P : List Tr} (hG : gok N L = true) (hs : 0 ≤ s ∧ s < N) (h : Found L s P) {t : Tr} (ht : t ∈ P) : 0 ≤ lastN t ∧ lastN t < 10 := by
  have h1 := ((h.best t ht).1.bounds hG hs).2.2.2.1
  have h2 := (gok_parts hG).2.1
  omega

end Go.Proofs.Ytkkfgnnhdcmmjaa
