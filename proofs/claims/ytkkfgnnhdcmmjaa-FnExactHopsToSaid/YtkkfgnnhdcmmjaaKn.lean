/- The program's sets of next hops: impl.hopSetsFrom. -/
import Derived.Shelf.Abstract
import Derived.Shelf.RegionOpen
import Derived.WalkKit
import Derived.OwnWalkIn
import Derived.TacticsInMore
import Derived.LoopNIn
import Derived.LoopIn
import Derived.Maps.OwnIn
import Derived.Test.YtkkfgnnhdcmmjaaKc
import Derived.Test.YtkkfgnnhdcmmjaaKm
import Derived.Test.YtkkfgnnhdcmmjaaMq
namespace Go.Proofs.Ytkkfgnnhdcmmjaa
open Go.RowKit Go.Shelf Go.Maps
attribute [local go_sem] Oper.semAt_some

/-- The first k of ten sets: where they lie, what they hold. -/
structure SetsS (W : World) (bs k n : Nat) (mp : Nat → Nat) (F : Nat → Int → Bool) : Prop where
  cell : ∀ i, i < k → W.cell? ⟨bs, i, none⟩ = some (.map (some (mp i)))
  set : ∀ i, i < k → SetAt W (mp i) n (F i)
  at_ : ∀ i, i < k → bs < mp i
  ne : ∀ i j, i < k → j < k → i ≠ j → mp i ≠ mp j
theorem SetsS.kept {W W' : World} {bs k n : Nat} {mp : Nat → Nat} {F : Nat → Int → Bool} {r : Option Nat} (h : SetsS W bs k n mp F) (hg : W.grownBy W' r) (h1 : some bs ≠ r) (h2 : ∀ i, i < k → some (mp i) ≠ r) : SetsS W' bs k n mp F where
  cell i hi := (World.cell?_of_block (w := W) (a := ⟨bs, i, none⟩) (hg.block bs (blk_lt (h.cell i hi)) h1)).trans (h.cell i hi)
  set i hi := (h.set i hi).kept hg (h2 i hi)
  at_ := h.at_
  ne := h.ne
theorem SetsS.below {W W' : World} {bs k n : Nat} {mp : Nat → Nat} {F : Nat → Int → Bool} (h : SetsS W bs k n mp F) (hb : Below W.heap.size W W') : SetsS W' bs k n mp F := h.kept (grown_of_below hb) (by simp) (fun _ _ => by simp)
theorem grownBy_setCellO (W : World) (b j : Nat) (u : Value) : W.grownBy (W.setCell ⟨b, j, none⟩ u) (some b) := grown_set (grown_refl W (some b)) j u
/-- A new set in the next place. -/
theorem SetsS.next {W : World} {bs k : Nat} {mp : Nat → Nat} (h : SetsS W bs k 0 mp (fun _ _ => false)) (hc : W.cell? ⟨bs, k, none⟩ = some (.map none)) (hb : bs < W.heap.size) :
    SetsS ((W.alloc (.map #[] 0)).setCell ⟨bs, k, none⟩ (.map (some W.heap.size))) bs (k + 1) 0 (fun i => if i = k then W.heap.size else mp i) (fun _ _ => false) := by
  have hal : Below W.heap.size W (W.alloc (.map #[] 0)) := (Below.refl _ _).alloc (Nat.le_refl _) _
  have h1 := h.below hal
  have hg := grownBy_setCellO (W.alloc (.map #[] 0)) bs k (.map (some W.heap.size))
  have hlt : ∀ i, i < k → mp i < W.heap.size := fun i hi => (h.set i hi).lt
  refine ⟨fun i hi => ?_, fun i hi => ?_, fun i hi => ?_, fun i j hi hj hij => ?_⟩
  · by_cases e : i = k
    · subst e
      simp only [if_true]
      exact World.cell?_setCell_same' _ _ _ (by rw [hal.cell (p := ⟨bs, i, none⟩) hb, hc]; rfl)
    · rw [if_neg e]
      rw [← h1.cell i (by omega)]
      apply World.cell?_setCell_other
      intro e'
      cases e'
      exact e rfl
  · by_cases e : i = k
    · subst e
      simp only [if_true]
      exact (SetAt.made W).kept hg (fun e => by cases e; omega)
    · simp only [if_neg e]
      exact (h1.set i (by omega)).kept hg (fun e => by have := h.at_ i (by omega); cases e; omega)
  · by_cases e : i = k
    · simp only [e, if_true]; exact hb
    · simp only [if_neg e]; exact h.at_ i (by omega)
  · by_cases e : i = k
    · subst e
      have := hlt j (by omega)
      simp only [if_true, if_neg (Ne.symm hij)]
      omega
    · by_cases e2 : j = k
      · subst e2
        have := hlt i (by omega)
        simp only [if_true, if_neg hij]
        omega
      · simp only [if_neg e, if_neg e2]
        exact h.ne i j (by omega) (by omega) hij

end Go.Proofs.Ytkkfgnnhdcmmjaa
