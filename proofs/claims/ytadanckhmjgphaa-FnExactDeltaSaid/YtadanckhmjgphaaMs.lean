/- Plain mathematics of series: samples (Time, Up, Value), which lists are series, what was counted, thinning, gaps. It imports no program. -/
import Derived.WalkKit
namespace Go.Proofs.Ytadanckhmjgphaa
open Go.RowKit

abbrev Sm := Int × Int × Int
def flat (L : List Sm) : List Int := L.flatMap fun r => [r.1, r.2.1, r.2.2]
theorem flat_cons (r : Sm) (L : List Sm) : flat (r :: L) = r.1 :: r.2.1 :: r.2.2 :: flat L := rfl
theorem flat_len : ∀ L : List Sm, (flat L).length = L.length * 3
  | [] => rfl
  | r :: L => by rw [flat_cons]; simp only [List.length_cons, flat_len L]; omega
theorem flat_app (L M : List Sm) : flat (L ++ M) = flat L ++ flat M := by simp [flat]
theorem flat_at : ∀ (L : List Sm) (i : Nat) (r : Sm), L[i]? = some r → (flat L)[i * 3]? = some r.1 ∧ (flat L)[i * 3 + 1]? = some r.2.1 ∧ (flat L)[i * 3 + 2]? = some r.2.2
  | [], i, r, h => by simp at h
  | q :: L, 0, r, h => by
    simp only [List.getElem?_cons_zero, Option.some.injEq] at h
    subst h
    exact ⟨rfl, rfl, rfl⟩
  | q :: L, i + 1, r, h => by
    have := flat_at L i r (by simpa using h)
    rw [flat_cons, show (i + 1) * 3 = i * 3 + 1 + 1 + 1 by omega]
    simpa using this
/-- The samples that a function of integers spells. -/
def eds (Z : Nat → Int) (n : Nat) : List Sm := (List.range n).map fun i => (Z (i * 3), Z (i * 3 + 1), Z (i * 3 + 2))
theorem eds_len (Z : Nat → Int) (n : Nat) : (eds Z n).length = n := by simp [eds]
theorem flat_eds (Z : Nat → Int) : ∀ n, flat (eds Z n) = (List.range (n * 3)).map Z
  | 0 => rfl
  | n + 1 => by
    have h : eds Z (n + 1) = eds Z n ++ [(Z (n * 3), Z (n * 3 + 1), Z (n * 3 + 2))] := by simp [eds, List.range_succ]
    rw [h, flat_app, flat_eds Z n, show (n + 1) * 3 = n * 3 + 1 + 1 + 1 by omega]
    simp only [List.range_succ, List.map_append, List.map_cons, List.map_nil, List.append_assoc]
    rfl
theorem take_snoc3 {L : List Sm} {k : Nat} {p : Sm} (h : L[k]? = some p) : L.take (k + 1) = L.take k ++ [p] := by
  rw [List.take_add_one, h]; rfl

def inB (x a b : Int) : Bool := decide (a ≤ x) && decide (x ≤ b)
theorem inB_true {x a b : Int} (h1 : a ≤ x) (h2 : x ≤ b) : inB x a b = true := by unfold inB; rw [decide_eq_true h1, decide_eq_true h2]; rfl
theorem inB_false {x a b : Int} (h : x < a ∨ b < x) : inB x a b = false := by
  unfold inB
  rcases h with h | h
  · rw [decide_eq_false (by omega : ¬ a ≤ x), Bool.false_and]
  · rw [decide_eq_false (by omega : ¬ x ≤ b), Bool.and_false]
theorem inB_iff {x a b : Int} : inB x a b = true ↔ a ≤ x ∧ x ≤ b := by unfold inB; rw [Bool.and_eq_true, decide_eq_true_iff, decide_eq_true_iff]
/-- Whether a sample is valid: Time, Up, Value. -/
def smB (a b c : Int) : Bool := inB a 0 1000000000 && (inB b 0 a && inB c 0 4294967295)
theorem smB_iff {a b c : Int} : smB a b c = true ↔ (0 ≤ a ∧ a ≤ 1000000000) ∧ (0 ≤ b ∧ b ≤ a) ∧ (0 ≤ c ∧ c ≤ 4294967295) := by
  unfold smB
  rw [Bool.and_eq_true, Bool.and_eq_true, inB_iff, inB_iff, inB_iff]
def s0 : Sm := (0, 0, 0)
/-- Whether sample i of the list is valid and later than the one before it. -/
def schk (L : List Sm) (i : Nat) : Bool := smB (L.getD i s0).1 (L.getD i s0).2.1 (L.getD i s0).2.2 && (i == 0 || decide ((L.getD (i - 1) s0).1 < (L.getD i s0).1))
/-- Whether the list is a series. -/
def sok (L : List Sm) : Bool := decide (L.length ≤ 120) && (List.range L.length).all (schk L)
theorem sok_big {L : List Sm} (h : 120 < L.length) : sok L = false := by unfold sok; rw [decide_eq_false (by omega), Bool.false_and]
theorem sok_no {L : List Sm} {i : Nat} (h : i < L.length) (hc : schk L i = false) : sok L = false := by
  unfold sok
  rw [Bool.and_eq_false_iff]
  right
  rw [List.all_eq_false]
  exact ⟨i, List.mem_range.2 h, by rw [hc]; simp⟩
theorem sok_yes {L : List Sm} (h : L.length ≤ 120) (hc : ∀ i, i < L.length → schk L i = true) : sok L = true := by
  unfold sok
  rw [decide_eq_true h, Bool.true_and, List.all_eq_true]
  exact fun i hi => hc i (List.mem_range.1 hi)
theorem sok_parts {L : List Sm} (h : sok L = true) : L.length ≤ 120 ∧ ∀ i, i < L.length → schk L i = true := by
  unfold sok at h
  rw [Bool.and_eq_true, decide_eq_true_iff, List.all_eq_true] at h
  exact ⟨h.1, fun i hi => h.2 i (List.mem_range.2 hi)⟩
theorem schk_at {L : List Sm} {i : Nat} {r : Sm} (h : L[i]? = some r) : schk L i = (smB r.1 r.2.1 r.2.2 && (i == 0 || decide ((L.getD (i - 1) s0).1 < r.1))) := by
  unfold schk
  rw [List.getD_eq_getElem?_getD (i := i), h]
  rfl
theorem schk_prev {L : List Sm} {i : Nat} {p r : Sm} (h : L[i + 1]? = some r) (h' : L[i]? = some p) : schk L (i + 1) = (smB r.1 r.2.1 r.2.2 && decide (p.1 < r.1)) := by
  rw [schk_at h, show i + 1 - 1 = i by omega, List.getD_eq_getElem?_getD, h']
  simp
theorem schk_zero {L : List Sm} {r : Sm} (h : L[0]? = some r) : schk L 0 = smB r.1 r.2.1 r.2.2 := by
  rw [schk_at h]; simp
theorem sok_at {L : List Sm} {i : Nat} {r : Sm} (h : sok L = true) (hr : L[i]? = some r) : (0 ≤ r.1 ∧ r.1 ≤ 1000000000) ∧ (0 ≤ r.2.1 ∧ r.2.1 ≤ r.1) ∧ (0 ≤ r.2.2 ∧ r.2.2 ≤ 4294967295) := by
  have hl : i < L.length := by
    rcases Nat.lt_or_ge i L.length with h1 | h1
    · exact h1
    · rw [List.getElem?_eq_none h1] at hr; simp at hr
  have := (sok_parts h).2 i hl
  rw [schk_at hr, Bool.and_eq_true] at this
  exact smB_iff.1 this.1
theorem lt_of_at {L : List Sm} {i : Nat} {r : Sm} (hr : L[i]? = some r) : i < L.length := by
  rcases Nat.lt_or_ge i L.length with h1 | h1
  · exact h1
  · rw [List.getElem?_eq_none h1] at hr; simp at hr
theorem at_of_lt {L : List Sm} {i : Nat} (h : i < L.length) : ∃ a b c : Int, L[i]? = some (a, b, c) := ⟨(L[i]'h).1, (L[i]'h).2.1, (L[i]'h).2.2, List.getElem?_eq_getElem h⟩
theorem sok_step {L : List Sm} {i : Nat} {p r : Sm} (h : sok L = true) (hp : L[i]? = some p) (hr : L[i + 1]? = some r) : p.1 < r.1 := by
  have := (sok_parts h).2 (i + 1) (lt_of_at hr)
  rw [schk_prev hr hp, Bool.and_eq_true, decide_eq_true_iff] at this
  exact this.2
/-- In a series the times rise. -/
theorem sok_rise {L : List Sm} (h : sok L = true) {i : Nat} {p : Sm} (hp : L[i]? = some p) : ∀ (d : Nat) (r : Sm), L[i + d + 1]? = some r → p.1 < r.1
  | 0, r, hr => sok_step h hp hr
  | d + 1, r, hr => by
    have hl := lt_of_at hr
    obtain ⟨a, b, c, hq⟩ := at_of_lt (L := L) (i := i + d + 1) (by omega)
    have h1 := sok_rise h hp d _ hq
    have h2 := sok_step h hq hr
    omega
/-- Sample k of a series is the last one's like only where it is the last one. -/
theorem sok_last {L : List Sm} (h : sok L = true) {k : Nat} {p q : Sm} (hp : L[k]? = some p) (hq : L[L.length - 1]? = some q) : p = q ↔ k + 1 = L.length := by
  have hk := lt_of_at hp
  constructor
  · intro e
    rcases Nat.lt_or_ge (k + 1) L.length with h1 | h1
    · have := sok_rise h hp (L.length - 2 - k) q (by rw [show k + (L.length - 2 - k) + 1 = L.length - 1 by omega]; exact hq)
      rw [e] at this
      omega
    · omega
  · intro e
    rw [show L.length - 1 = k by omega, hp] at hq
    simpa using hq

/-- Whether the device has begun anew between two samples. -/
def anewB (a b : Sm) : Bool := decide (b.2.1 < b.1 - a.1) || decide (b.2.1 < a.2.1)
/-- What was counted between two samples. -/
def dlt (a b : Sm) : Int := if anewB a b = true then b.2.2 else if b.2.2 - a.2.2 < 0 then b.2.2 - a.2.2 + 4294967296 else b.2.2 - a.2.2
def deltaV (a b : Sm) : Int := if sok [a, b] = true then dlt a b else -1
theorem deltaV_no {a b : Sm} (h : sok [a, b] = false) : deltaV a b = -1 := by unfold deltaV; rw [if_neg (by rw [h]; simp)]
theorem deltaV_yes {a b : Sm} (h : sok [a, b] = true) : deltaV a b = dlt a b := by unfold deltaV; rw [if_pos h]

/-- What thinning takes of the first k samples. -/
def thinK (L : List Sm) (e : Int) : Nat → List Sm
  | 0 => []
  | k + 1 => if k = 0 ∨ k + 1 = L.length ∨ e ≤ (L.getD k s0).1 - ((thinK L e k).getLastD s0).1 then thinK L e k ++ [L.getD k s0] else thinK L e k
theorem getD_of {L : List Sm} {k : Nat} {r : Sm} (h : L[k]? = some r) : L.getD k s0 = r := by rw [List.getD_eq_getElem?_getD, h]; rfl
theorem thinK_take {L : List Sm} {e : Int} {k : Nat} {r : Sm} (h : L[k]? = some r) (hc : k = 0 ∨ k + 1 = L.length ∨ e ≤ r.1 - ((thinK L e k).getLastD s0).1) : thinK L e (k + 1) = thinK L e k ++ [r] := by
  show (if _ then _ else _) = _
  rw [getD_of h, if_pos hc]
theorem thinK_skip {L : List Sm} {e : Int} {k : Nat} {r : Sm} (h : L[k]? = some r) (hc : ¬ (k = 0 ∨ k + 1 = L.length ∨ e ≤ r.1 - ((thinK L e k).getLastD s0).1)) : thinK L e (k + 1) = thinK L e k := by
  show (if _ then _ else _) = _
  rw [getD_of h, if_neg hc]
theorem thinK_len (L : List Sm) (e : Int) : ∀ k, (thinK L e k).length ≤ k
  | 0 => Nat.le_refl _
  | k + 1 => by
    have := thinK_len L e k
    show (if _ then _ else _ : List Sm).length ≤ _
    split
    · rw [List.length_append, List.length_singleton]; omega
    · omega
theorem thinK_pos (L : List Sm) (e : Int) : ∀ k, 0 < k → 0 < (thinK L e k).length
  | k + 1, _ => by
    show 0 < (if _ then _ else _ : List Sm).length
    split
    · rw [List.length_append, List.length_singleton]; omega
    · rename_i h
      exact thinK_pos L e k (by omega)
theorem thinK_mem (L : List Sm) (e : Int) : ∀ k, k ≤ L.length → ∀ x, x ∈ thinK L e k → x ∈ L
  | 0, _, x, h => by simp [thinK] at h
  | k + 1, hk, x, h => by
    have hg : L.getD k s0 ∈ L := by
      rw [List.getD_eq_getElem?_getD, List.getElem?_eq_getElem (show k < L.length by omega)]
      exact List.getElem_mem _
    have h' : x ∈ (if _ then _ else _ : List Sm) := h
    split at h'
    · rw [List.mem_append] at h'
      rcases h' with h' | h'
      · exact thinK_mem L e k (by omega) x h'
      · rw [List.mem_singleton.1 h']; exact hg
    · exact thinK_mem L e k (by omega) x h'
/-- The last one taken, by its place. -/
theorem thinK_last {L : List Sm} {e : Int} {k : Nat} (hk : 0 < k) : ∃ a b c : Int, (thinK L e k)[(thinK L e k).length - 1]? = some (a, b, c) ∧ (thinK L e k).getLastD s0 = (a, b, c) := by
  have hp := thinK_pos L e k hk
  obtain ⟨a, b, c, h⟩ := at_of_lt (L := thinK L e k) (i := (thinK L e k).length - 1) (by omega)
  refine ⟨a, b, c, h, ?_⟩
  rw [List.getLastD_eq_getLast?, List.getLast?_eq_getElem?, h]
  rfl
/-- What Thin answers. -/
def thinL (L : List Sm) (e : Int) : List Sm := if sok L = true ∧ 1 ≤ e ∧ e ≤ 1000000000 then thinK L e L.length else []
def thinB (L : List Sm) (e : Int) : Bool := sok L && inB e 1 1000000000
theorem thinL_len (L : List Sm) (e : Int) : (thinL L e).length ≤ 120 := by
  unfold thinL
  split
  · rename_i h
    have := thinK_len L e L.length
    have := (sok_parts h.1).1
    omega
  · simp

/-- The places below k that lie farther than m behind the one before. -/
def gapK (L : List Sm) (m : Int) : Nat → List Int
  | 0 => []
  | k + 1 => if k = 0 then [] else if m < (L.getD k s0).1 - (L.getD (k - 1) s0).1 then gapK L m k ++ [(k : Int)] else gapK L m k
theorem gapK_one (L : List Sm) (m : Int) : gapK L m 1 = [] := rfl
theorem gapK_take {L : List Sm} {m : Int} {k : Nat} {p r : Sm} (hp : L[k]? = some p) (hr : L[k + 1]? = some r) (hc : m < r.1 - p.1) : gapK L m (k + 2) = gapK L m (k + 1) ++ [((k + 1 : Nat) : Int)] := by
  show (if _ then _ else _) = _
  rw [if_neg (by omega), getD_of hr, show k + 1 - 1 = k by omega, getD_of hp, if_pos hc]
theorem gapK_skip {L : List Sm} {m : Int} {k : Nat} {p r : Sm} (hp : L[k]? = some p) (hr : L[k + 1]? = some r) (hc : ¬ m < r.1 - p.1) : gapK L m (k + 2) = gapK L m (k + 1) := by
  show (if _ then _ else _) = _
  rw [if_neg (by omega), getD_of hr, show k + 1 - 1 = k by omega, getD_of hp, if_neg hc]
theorem gapK_len (L : List Sm) (m : Int) : ∀ k, (gapK L m k).length ≤ k
  | 0 => Nat.le_refl _
  | k + 1 => by
    have := gapK_len L m k
    show (if _ then _ else _ : List Int).length ≤ _
    split
    · simp
    · split
      · rw [List.length_append, List.length_singleton]; omega
      · omega
def gapL (L : List Sm) (m : Int) : List Int := if sok L = true then gapK L m L.length else []
theorem gapL_len (L : List Sm) (m : Int) : (gapL L m).length ≤ 120 := by
  unfold gapL
  split
  · rename_i h
    have := gapK_len L m L.length
    have := (sok_parts h).1
    omega
  · simp

end Go.Proofs.Ytadanckhmjgphaa
