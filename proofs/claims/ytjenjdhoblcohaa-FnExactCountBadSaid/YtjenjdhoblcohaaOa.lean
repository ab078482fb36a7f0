/- The mathematics of updates: hops of nodes, mixed hops, the first loop. -/
import Derived.Test.YtjenjdhoblcohaaKp
import Derived.Test.YtjenjdhoblcohaaLq
namespace Go.Proofs.Ytjenjdhoblcohaa
open Go.RowKit

/-- The first node of the next hops, or none. -/
def headOr (l : List Int) : Int := l.headD (-1)
/-- The hop of a node. -/
def hopV (N : Int) (L : List Ed) (x d : Int) : Int := if gok N L = true ∧ ndB N x = true ∧ ndB N d = true then (if x = d then x else headOr (hopsL N L x d)) else -1
theorem hopV_no {N : Int} {L : List Ed} {x d : Int} (h : ¬ (gok N L = true ∧ ndB N x = true ∧ ndB N d = true)) : hopV N L x d = -1 := by unfold hopV; rw [if_neg h]
theorem hopV_self {N : Int} {L : List Ed} {d : Int} (h : gok N L = true) (hd : ndB N d = true) : hopV N L d d = d := by unfold hopV; rw [if_pos ⟨h, hd, hd⟩, if_pos rfl]
theorem hopV_ne {N : Int} {L : List Ed} {x d : Int} (h : gok N L = true) (hx : ndB N x = true) (hd : ndB N d = true) (hn : x ≠ d) : hopV N L x d = headOr (hopsL N L x d) := by unfold hopV; rw [if_pos ⟨h, hx, hd⟩, if_neg hn]
/-- A hop that is a node is nearer. -/
theorem hopV_less {N : Int} {L : List Ed} {x d : Int} (h : gok N L = true) (hx : 0 ≤ x ∧ x < N) (hd : 0 ≤ d ∧ d < N) (hn : x ≠ d) (hp : hopV N L x d ≠ -1) : tgP N L d x (hopV N L x d) := by
  have hx' : ndB N x = true := by unfold ndB; rw [inB_iff]; omega
  have hd' : ndB N d = true := by unfold ndB; rw [inB_iff]; omega
  rw [hopV_ne h hx' hd' hn] at hp ⊢
  have e : hopsL N L x d = setL (fun z => decide (tgP N L d x z)) := by unfold hopsL; rw [if_pos ⟨h, hx', hd'⟩]
  rw [e] at hp ⊢
  cases hl : setL (fun z => decide (tgP N L d x z)) with
  | nil => rw [hl] at hp; exact absurd rfl hp
  | cons a l =>
    have hm : a ∈ setL (fun z => decide (tgP N L d x z)) := by rw [hl]; simp
    exact of_decide_eq_true (mem_setL.1 hm).2
theorem hopV_in {N : Int} {L : List Ed} (x d : Int) : -1 ≤ hopV N L x d ∧ hopV N L x d < 10 := by
  unfold hopV
  split
  · rename_i h
    have hN := gok_parts h.1
    have hx := h.2.1
    unfold ndB at hx
    rw [inB_iff] at hx
    split
    · omega
    · have e : hopsL N L x d = setL (fun z => decide (tgP N L d x z)) := by unfold hopsL; rw [if_pos h]
      rw [e]
      cases hl : setL (fun z => decide (tgP N L d x z)) with
      | nil => exact ⟨by decide, by decide⟩
      | cons a l =>
        have hm : a ∈ setL (fun z => decide (tgP N L d x z)) := by rw [hl]; simp
        have := (mem_setL.1 hm).1
        show -1 ≤ a ∧ a < 10
        omega
  · omega
/-- Two graphs of the same nodes, and a node. -/
def fineB (N1 : Int) (L1 : List Ed) (N2 : Int) (L2 : List Ed) (d : Int) : Bool := gok N1 L1 && (gok N2 L2 && (decide (N1 = N2) && ndB N1 d))
theorem fineB_iff {N1 N2 d : Int} {L1 L2 : List Ed} : fineB N1 L1 N2 L2 d = true ↔ gok N1 L1 = true ∧ gok N2 L2 = true ∧ N1 = N2 ∧ ndB N1 d = true := by
  unfold fineB
  rw [Bool.and_eq_true, Bool.and_eq_true, Bool.and_eq_true, decide_eq_true_iff]
/-- The hops of the first k nodes when those of done are updated. -/
def mixK (N : Int) (L1 L2 : List Ed) (done : List Int) (d : Int) (k : Nat) : List Int := (List.range k).map fun (i : Nat) => if (i : Int) ∈ done then hopV N L2 (i : Int) d else hopV N L1 (i : Int) d
theorem mixK_len (N : Int) (L1 L2 : List Ed) (done : List Int) (d : Int) (k : Nat) : (mixK N L1 L2 done d k).length = k := by unfold mixK; simp
theorem mixK_succ (N : Int) (L1 L2 : List Ed) (done : List Int) (d : Int) (k : Nat) : mixK N L1 L2 done d (k + 1) = mixK N L1 L2 done d k ++ [if (k : Int) ∈ done then hopV N L2 (k : Int) d else hopV N L1 (k : Int) d] := by
  unfold mixK
  rw [List.range_succ, List.map_append]
  rfl
theorem mixK_at (N : Int) (L1 L2 : List Ed) (done : List Int) (d : Int) {k i : Nat} (h : i < k) : (mixK N L1 L2 done d k)[i]? = some (if (i : Int) ∈ done then hopV N L2 (i : Int) d else hopV N L1 (i : Int) d) := by
  unfold mixK
  rw [List.getElem?_map, List.getElem?_range h]
  rfl
def mixL (N1 : Int) (L1 : List Ed) (N2 : Int) (L2 : List Ed) (done : List Int) (d : Int) : List Int := if fineB N1 L1 N2 L2 d = true ∧ done.length ≤ 300 then mixK N1 L1 L2 done d N1.toNat else []
theorem mixL_len (N1 : Int) (L1 : List Ed) (N2 : Int) (L2 : List Ed) (done : List Int) (d : Int) : (mixL N1 L1 N2 L2 done d).length ≤ 10 := by
  unfold mixL
  split
  · rename_i h
    rw [mixK_len]
    have := gok_parts (fineB_iff.1 h.1).1
    omega
  · simp
/-- The hops of all nodes in one graph. -/
def towK (N : Int) (L : List Ed) (d : Int) (k : Nat) : List Int := (List.range k).map fun (i : Nat) => hopV N L (i : Int) d
theorem towK_len (N : Int) (L : List Ed) (d : Int) (k : Nat) : (towK N L d k).length = k := by unfold towK; simp
theorem towK_at (N : Int) (L : List Ed) (d : Int) {k i : Nat} (h : i < k) : (towK N L d k)[i]? = some (hopV N L (i : Int) d) := by
  unfold towK
  rw [List.getElem?_map, List.getElem?_range h]
  rfl
theorem mixK_none (N : Int) (L1 L2 : List Ed) (d : Int) (k : Nat) : mixK N L1 L2 [] d k = towK N L1 d k := by unfold mixK towK; simp
/-- One node more is updated. -/
def upd1 (fresh : List Int) (h : List Int) (x : Int) : List Int := if 0 ≤ x ∧ x < (h.length : Int) then h.set x.toNat (fresh.getD x.toNat 0) else h
theorem upd1_len (fresh h : List Int) (x : Int) : (upd1 fresh h x).length = h.length := by unfold upd1; split <;> simp
theorem mixK_upd (N : Int) (L1 L2 : List Ed) (done : List Int) (d : Int) (k : Nat) (x : Int) : upd1 (towK N L2 d k) (mixK N L1 L2 done d k) x = mixK N L1 L2 (done ++ [x]) d k := by
  apply List.ext_getElem?
  intro i
  by_cases hi : i < k
  · rw [mixK_at _ _ _ _ _ hi]
    unfold upd1
    rw [mixK_len]
    split
    · rename_i hx
      by_cases e : x = (i : Int)
      · subst e
        rw [Int.toNat_natCast, List.getElem?_set_self (by rw [mixK_len]; exact hi), List.getD_eq_getElem?_getD, towK_at _ _ _ hi]
        simp
      · rw [List.getElem?_set_ne (by omega), mixK_at _ _ _ _ _ hi]
        have e' : ¬ (i : Int) = x := fun h => e h.symm
        simp [e']
    · rename_i hx
      rw [mixK_at _ _ _ _ _ hi]
      have e' : ¬ (i : Int) = x := fun h => hx (by omega)
      simp [e']
  · rw [List.getElem?_eq_none (by rw [upd1_len, mixK_len]; omega), List.getElem?_eq_none (by rw [mixK_len]; omega)]
theorem upd_fold (N : Int) (L1 L2 : List Ed) (d : Int) (k : Nat) : ∀ (done pre : List Int), done.foldl (upd1 (towK N L2 d k)) (mixK N L1 L2 pre d k) = mixK N L1 L2 (pre ++ done) d k
  | [], pre => by simp
  | x :: r, pre => by rw [List.foldl_cons, mixK_upd, upd_fold N L1 L2 d k r (pre ++ [x]), List.append_assoc]; rfl
/-- The first number of updated nodes, among k and those behind, at which there is a loop. -/
def fstK (f : Nat → Bool) (n : Nat) : Nat → Int
  | 0 => -1
  | q + 1 => if f (n - (q + 1)) = true then ((n - (q + 1) : Nat) : Int) else fstK f n q
/-- Whether there is a loop when the first k of the order are updated. -/
def badK (N : Int) (L1 L2 : List Ed) (order : List Int) (d : Int) (k : Nat) : Bool := !(loopsL (mixK N L1 L2 (order.take k) d N.toNat) d).isEmpty
def fstL (N1 : Int) (L1 : List Ed) (N2 : Int) (L2 : List Ed) (order : List Int) (d : Int) : Int :=
  if fineB N1 L1 N2 L2 d = true ∧ order.length ≤ 10 then fstK (badK N1 L1 L2 order d) (order.length + 1) (order.length + 1) else -2
theorem fstK_rng (f : Nat → Bool) (n : Nat) : ∀ q, q ≤ n → -1 ≤ fstK f n q ∧ fstK f n q < n ∨ fstK f n q = -1
  | 0, _ => .inr rfl
  | q + 1, h => by
    unfold fstK
    split
    · left; omega
    · exact fstK_rng f n q (by omega)
theorem fstK_none (f : Nat → Bool) (n : Nat) : ∀ q, q ≤ n → (fstK f n q = -1 ↔ ∀ k, n - q ≤ k → k < n → f k = false)
  | 0, _ => ⟨fun _ k h1 h2 => by omega, fun _ => rfl⟩
  | q + 1, h => by
    unfold fstK
    split
    · rename_i hf
      constructor
      · intro e; omega
      · intro hh
        rw [hh (n - (q + 1)) (Nat.le_refl _) (by omega)] at hf
        cases hf
    · rename_i hf
      rw [fstK_none f n q (by omega)]
      constructor
      · intro hh k h1 h2
        by_cases e : k = n - (q + 1)
        · subst e; simpa using hf
        · exact hh k (by omega) h2
      · intro hh k h1 h2
        exact hh k (by omega) h2

end Go.Proofs.Ytjenjdhoblcohaa
