/- Walks of a packet over tables, as mathematics. -/
import Derived.Test.YtflhbfndfjkfgaaBl
namespace Go.Proofs.Ytflhbfndfjkfgaa
open Go.RowKit


/-- Where the table of node x sends a packet for a. -/
def hopA (D : List (List Rt)) (a : Int) (x : Nat) : Int := hopO (bestO (D.getD x []) a)
/-- The way of a packet at node x that may go on t times, and how it ends. -/
def wlk (D : List (List Rt)) (a : Int) : Nat → Nat → List Int × Int
  | 0, x => if hopA D a x = 0 then ([(x : Int)], 0) else if hopA D a x < 0 ∨ (D.length : Int) < hopA D a x then ([(x : Int)], 1) else ([(x : Int)], 2)
  | t + 1, x => if hopA D a x = 0 then ([(x : Int)], 0) else if hopA D a x < 0 ∨ (D.length : Int) < hopA D a x then ([(x : Int)], 1) else ((x : Int) :: (wlk D a t (hopA D a x - 1).toNat).1, (wlk D a t (hopA D a x - 1).toNat).2)
theorem wlk_home {D : List (List Rt)} {a : Int} {t x : Nat} (h : hopA D a x = 0) : wlk D a t x = ([(x : Int)], 0) := by
  cases t <;> simp [wlk, h]
theorem wlk_none {D : List (List Rt)} {a : Int} {t x : Nat} (h : hopA D a x ≠ 0) (h2 : hopA D a x < 0 ∨ (D.length : Int) < hopA D a x) : wlk D a t x = ([(x : Int)], 1) := by
  cases t <;> simp [wlk, h, h2]
theorem wlk_loop {D : List (List Rt)} {a : Int} {x : Nat} (h : hopA D a x ≠ 0) (h2 : ¬ (hopA D a x < 0 ∨ (D.length : Int) < hopA D a x)) : wlk D a 0 x = ([(x : Int)], 2) := by
  simp only [wlk, if_neg h, if_neg h2]
theorem wlk_step {D : List (List Rt)} {a : Int} {t x : Nat} (h : hopA D a x ≠ 0) (h2 : ¬ (hopA D a x < 0 ∨ (D.length : Int) < hopA D a x)) : wlk D a (t + 1) x = ((x : Int) :: (wlk D a t (hopA D a x - 1).toNat).1, (wlk D a t (hopA D a x - 1).toNat).2) := by
  simp only [wlk, if_neg h, if_neg h2]
theorem wlk_len (D : List (List Rt)) (a : Int) : ∀ t x, (wlk D a t x).1.length ≤ t + 1
  | 0, x => by unfold wlk; split; simp; split <;> simp
  | t + 1, x => by
    unfold wlk
    split
    · simp
    · split
      · simp
      · have := wlk_len D a t (hopA D a x - 1).toNat
        simp only [List.length_cons]
        omega
theorem wlk_code (D : List (List Rt)) (a : Int) : ∀ t x, 0 ≤ (wlk D a t x).2 ∧ (wlk D a t x).2 ≤ 2
  | 0, x => by unfold wlk; split; simp; split <;> simp
  | t + 1, x => by
    unfold wlk
    split
    · simp
    · split
      · simp
      · exact wlk_code D a t (hopA D a x - 1).toNat
/-- Whether the tables can be asked for an address. -/
def fine (D : List (List Rt)) (a : Int) : Bool := decide (1 ≤ D.length) && decide (D.length ≤ 10) && inB a 0 65535 && D.all tok
theorem fine_all {D : List (List Rt)} {a : Int} (h : fine D a = true) : 1 ≤ D.length ∧ D.length ≤ 10 ∧ inB a 0 65535 = true ∧ ∀ (i : Nat) (l : List Rt), D[i]? = some l → tok l = true := by
  unfold fine at h
  simp only [Bool.and_eq_true, decide_eq_true_eq, List.all_eq_true] at h
  exact ⟨h.1.1.1, h.1.1.2, h.1.2, fun i l hl => h.2 l (List.mem_of_getElem? hl)⟩
theorem fine_yes {D : List (List Rt)} {a : Int} (h1 : 1 ≤ D.length) (h2 : D.length ≤ 10) (h3 : inB a 0 65535 = true) (h4 : ∀ i, i < D.length → ∀ l, D[i]? = some l → tok l = true) : fine D a = true := by
  unfold fine
  simp only [Bool.and_eq_true, decide_eq_true_eq, List.all_eq_true]
  refine ⟨⟨⟨h1, h2⟩, h3⟩, fun l hl => ?_⟩
  obtain ⟨i, hi, e⟩ := List.getElem_of_mem hl
  exact h4 i hi l (by rw [List.getElem?_eq_getElem hi, e])
theorem fine_len0 {D : List (List Rt)} {a : Int} (h : D.length < 1) : fine D a = false := by unfold fine; rw [decide_eq_false (by omega)]; rfl
theorem fine_len1 {D : List (List Rt)} {a : Int} (h : 10 < D.length) : fine D a = false := by unfold fine; rw [decide_eq_false (show ¬ D.length ≤ 10 by omega)]; simp
theorem fine_addr {D : List (List Rt)} {a : Int} (h : inB a 0 65535 = false) : fine D a = false := by unfold fine; rw [h]; simp
theorem fine_no {D : List (List Rt)} {a : Int} {i : Nat} {l : List Rt} (h : D[i]? = some l) (h2 : tok l = false) : fine D a = false := by
  unfold fine
  rw [show D.all tok = false from List.all_eq_false.2 ⟨l, List.mem_of_getElem? h, by rw [h2]; simp⟩]
  simp
/-- What Walk answers. -/
def walkV (D : List (List Rt)) (x a t : Int) : List Int × Int :=
  if fine D a = true ∧ 0 ≤ x ∧ x < D.length ∧ 0 ≤ t ∧ t ≤ 16 then wlk D a t.toNat x.toNat else ([], 3)
theorem walkV_len (D : List (List Rt)) (x a t : Int) : (walkV D x a t).1.length ≤ 17 := by
  unfold walkV
  split
  · rename_i h
    have := wlk_len D a t.toNat x.toNat
    omega
  · simp
/-- The nodes from which a walk ends so. -/
def stn (D : List (List Rt)) (a : Int) (t : Nat) (c : Int) (k : Nat) : List Int := ((List.range k).filter fun x => decide ((wlk D a t x).2 = c)).map fun (x : Nat) => (x : Int)
def startsV (D : List (List Rt)) (a : Int) (t : Nat) (c : Int) : List Int := if fine D a = true then stn D a t c D.length else []
theorem stn_succ (D : List (List Rt)) (a : Int) (t : Nat) (c : Int) (k : Nat) : stn D a t c (k + 1) = if (wlk D a t k).2 = c then stn D a t c k ++ [(k : Int)] else stn D a t c k := by
  unfold stn
  rw [List.range_succ, List.filter_append, List.map_append]
  split
  · rename_i h; simp [h]
  · rename_i h; simp [h]
theorem stn_len (D : List (List Rt)) (a : Int) (t : Nat) (c : Int) (k : Nat) : (stn D a t c k).length ≤ k := by
  unfold stn
  rw [List.length_map]
  exact Nat.le_trans (List.length_filter_le _ _) (by simp)
theorem hop_bounds {L : List Rt} {a : Int} (h : tok L = true) : -1 ≤ hopO (bestO L a) ∧ hopO (bestO L a) ≤ 999 := by
  unfold bestO
  split
  · cases e : lastH L a L.length with
    | none => simp [hopO]
    | some b =>
      obtain ⟨_, i, _, hi⟩ := lastH_some e
      have hr := tok_rok h b (List.mem_of_getElem? hi)
      unfold rok at hr
      rw [Bool.and_eq_true] at hr
      have := hr.2
      unfold inB at this
      simp only [decide_eq_true_eq] at this
      simp only [hopO]
      omega
  · simp [hopO]
theorem hopA_bounds {D : List (List Rt)} {a : Int} (h : fine D a = true) {x : Nat} (hx : x < D.length) : -1 ≤ hopA D a x ∧ hopA D a x ≤ 999 := by
  obtain ⟨_, _, _, h4⟩ := fine_all h
  unfold hopA
  rw [List.getD_eq_getElem?_getD, List.getElem?_eq_getElem hx]
  exact hop_bounds (h4 x _ (List.getElem?_eq_getElem hx))

end Go.Proofs.Ytflhbfndfjkfgaa
