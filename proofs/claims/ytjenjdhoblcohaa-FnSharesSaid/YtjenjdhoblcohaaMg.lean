/- Plain mathematics of graphs: lists of edges (From, To, Cost); which are valid; what an edge costs. It imports no program. -/
import Derived.WalkKit
namespace Go.Proofs.Ytjenjdhoblcohaa

abbrev Ed := Int × Int × Int
def flat (L : List Ed) : List Int := L.flatMap fun r => [r.1, r.2.1, r.2.2]
theorem flat_cons (r : Ed) (L : List Ed) : flat (r :: L) = r.1 :: r.2.1 :: r.2.2 :: flat L := rfl
theorem flat_len : ∀ L : List Ed, (flat L).length = L.length * 3
  | [] => rfl
  | r :: L => by rw [flat_cons]; simp only [List.length_cons, flat_len L]; omega
theorem flat_app (L M : List Ed) : flat (L ++ M) = flat L ++ flat M := by simp [flat]
theorem flat_at : ∀ (L : List Ed) (i : Nat) (r : Ed), L[i]? = some r → (flat L)[i * 3]? = some r.1 ∧ (flat L)[i * 3 + 1]? = some r.2.1 ∧ (flat L)[i * 3 + 2]? = some r.2.2
  | [], i, r, h => by simp at h
  | q :: L, 0, r, h => by
    simp only [List.getElem?_cons_zero, Option.some.injEq] at h
    subst h
    exact ⟨rfl, rfl, rfl⟩
  | q :: L, i + 1, r, h => by
    have := flat_at L i r (by simpa using h)
    rw [flat_cons, show (i + 1) * 3 = i * 3 + 1 + 1 + 1 by omega]
    simpa using this
/-- The edges that a function of integers spells. -/
def eds (Z : Nat → Int) (n : Nat) : List Ed := (List.range n).map fun i => (Z (i * 3), Z (i * 3 + 1), Z (i * 3 + 2))
theorem eds_len (Z : Nat → Int) (n : Nat) : (eds Z n).length = n := by simp [eds]
theorem flat_eds (Z : Nat → Int) : ∀ n, flat (eds Z n) = (List.range (n * 3)).map Z
  | 0 => rfl
  | n + 1 => by
    have h : eds Z (n + 1) = eds Z n ++ [(Z (n * 3), Z (n * 3 + 1), Z (n * 3 + 2))] := by simp [eds, List.range_succ]
    rw [h, flat_app, flat_eds Z n, show (n + 1) * 3 = n * 3 + 1 + 1 + 1 by omega]
    simp only [List.range_succ, List.map_append, List.map_cons, List.map_nil, List.append_assoc]
    rfl
theorem take_snoc3 {L : List Ed} {k : Nat} {p : Ed} (h : L[k]? = some p) : L.take (k + 1) = L.take k ++ [p] := by
  rw [List.take_add_one, h]; rfl

def inB (x a b : Int) : Bool := decide (a ≤ x) && decide (x ≤ b)
theorem inB_true {x a b : Int} (h1 : a ≤ x) (h2 : x ≤ b) : inB x a b = true := by unfold inB; rw [decide_eq_true h1, decide_eq_true h2]; rfl
theorem inB_false {x a b : Int} (h : x < a ∨ b < x) : inB x a b = false := by
  unfold inB
  rcases h with h | h
  · rw [decide_eq_false (by omega : ¬ a ≤ x), Bool.false_and]
  · rw [decide_eq_false (by omega : ¬ x ≤ b), Bool.and_false]
theorem inB_iff {x a b : Int} : inB x a b = true ↔ a ≤ x ∧ x ≤ b := by unfold inB; rw [Bool.and_eq_true, decide_eq_true_iff, decide_eq_true_iff]
/-- Whether x is a node. -/
def ndB (N x : Int) : Bool := inB x 0 (N - 1)
def eokB (N a b c : Int) : Bool := ndB N a && ndB N b && !(a == b) && inB c 1 1000
def eahB (a b c d : Int) : Bool := decide (a < c) || (decide (a = c) && decide (b < d))
def e0 : Ed := (0, 0, 0)
/-- Whether edge i of the list is valid and stands behind the one before it. -/
def echk (N : Int) (L : List Ed) (i : Nat) : Bool := eokB N (L.getD i e0).1 (L.getD i e0).2.1 (L.getD i e0).2.2 && (i == 0 || eahB (L.getD (i - 1) e0).1 (L.getD (i - 1) e0).2.1 (L.getD i e0).1 (L.getD i e0).2.1)
/-- Whether the graph is valid. -/
def gok (N : Int) (L : List Ed) : Bool := inB N 1 10 && decide (L.length ≤ 60) && (List.range L.length).all (echk N L)
theorem gok_n {N : Int} {L : List Ed} (h : N < 1 ∨ 10 < N) : gok N L = false := by unfold gok; rw [inB_false h, Bool.false_and, Bool.false_and]
theorem gok_big {N : Int} {L : List Ed} (h : 60 < L.length) : gok N L = false := by unfold gok; rw [decide_eq_false (by omega), Bool.and_false, Bool.false_and]
theorem gok_no {N : Int} {L : List Ed} {i : Nat} (h : i < L.length) (hc : echk N L i = false) : gok N L = false := by
  unfold gok
  rw [Bool.and_eq_false_iff]
  right
  rw [List.all_eq_false]
  exact ⟨i, List.mem_range.2 h, by rw [hc]; simp⟩
theorem gok_yes {N : Int} {L : List Ed} (h1 : 1 ≤ N) (h2 : N ≤ 10) (h : L.length ≤ 60) (hc : ∀ i, i < L.length → echk N L i = true) : gok N L = true := by
  unfold gok
  rw [inB_true h1 h2, decide_eq_true h, Bool.true_and, Bool.true_and, List.all_eq_true]
  exact fun i hi => hc i (List.mem_range.1 hi)
theorem gok_parts {N : Int} {L : List Ed} (h : gok N L = true) : 1 ≤ N ∧ N ≤ 10 ∧ L.length ≤ 60 ∧ ∀ i, i < L.length → echk N L i = true := by
  unfold gok at h
  rw [Bool.and_eq_true, Bool.and_eq_true, inB_iff, decide_eq_true_iff, List.all_eq_true] at h
  exact ⟨h.1.1.1, h.1.1.2, h.1.2, fun i hi => h.2 i (List.mem_range.2 hi)⟩
theorem echk_at {N : Int} {L : List Ed} {i : Nat} {r : Ed} (h : L[i]? = some r) : echk N L i = (eokB N r.1 r.2.1 r.2.2 && (i == 0 || eahB (L.getD (i - 1) e0).1 (L.getD (i - 1) e0).2.1 r.1 r.2.1)) := by
  unfold echk
  rw [List.getD_eq_getElem?_getD (i := i), h]
  rfl
theorem echk_prev {N : Int} {L : List Ed} {i : Nat} {p r : Ed} (h : L[i + 1]? = some r) (h' : L[i]? = some p) : echk N L (i + 1) = (eokB N r.1 r.2.1 r.2.2 && eahB p.1 p.2.1 r.1 r.2.1) := by
  rw [echk_at h, show i + 1 - 1 = i by omega, List.getD_eq_getElem?_getD, h']
  simp

theorem eokB_iff {N a b c : Int} : eokB N a b c = true ↔ (0 ≤ a ∧ a < N) ∧ (0 ≤ b ∧ b < N) ∧ a ≠ b ∧ 1 ≤ c ∧ c ≤ 1000 := by
  unfold eokB ndB
  simp only [Bool.and_eq_true, inB_iff, Bool.not_eq_true', beq_eq_false_iff_ne, ne_eq]
  constructor
  · rintro ⟨⟨⟨h1, h2⟩, h3⟩, h4⟩; exact ⟨⟨h1.1, by omega⟩, ⟨h2.1, by omega⟩, h3, h4⟩
  · rintro ⟨h1, h2, h3, h4⟩; exact ⟨⟨⟨⟨h1.1, by omega⟩, ⟨h2.1, by omega⟩⟩, h3⟩, h4⟩
theorem eahB_iff {a b c d : Int} : eahB a b c d = true ↔ a < c ∨ a = c ∧ b < d := by
  unfold eahB; simp
theorem gok_mem {N : Int} {L : List Ed} (h : gok N L = true) {e : Ed} (he : e ∈ L) : (0 ≤ e.1 ∧ e.1 < N) ∧ (0 ≤ e.2.1 ∧ e.2.1 < N) ∧ e.1 ≠ e.2.1 ∧ 1 ≤ e.2.2 ∧ e.2.2 ≤ 1000 := by
  obtain ⟨i, hi⟩ := List.getElem?_of_mem he
  have hl : i < L.length := (List.getElem?_eq_some_iff.1 hi).1
  have := (gok_parts h).2.2.2 i hl
  rw [echk_at hi, Bool.and_eq_true] at this
  exact eokB_iff.1 this.1
theorem gok_step {N : Int} {L : List Ed} (h : gok N L = true) {i : Nat} {p r : Ed} (hp : L[i]? = some p) (hr : L[i + 1]? = some r) : p.1 < r.1 ∨ p.1 = r.1 ∧ p.2.1 < r.2.1 := by
  have hl : i + 1 < L.length := (List.getElem?_eq_some_iff.1 hr).1
  have := (gok_parts h).2.2.2 (i + 1) hl
  rw [echk_prev hr hp, Bool.and_eq_true] at this
  exact eahB_iff.1 this.2
theorem gok_lt {N : Int} {L : List Ed} (h : gok N L = true) {i : Nat} {p : Ed} (hp : L[i]? = some p) : ∀ (d : Nat) {r : Ed}, L[i + 1 + d]? = some r → p.1 < r.1 ∨ p.1 = r.1 ∧ p.2.1 < r.2.1
  | 0, r, hr => gok_step h hp hr
  | d + 1, r, hr => by
    have hl : i + 1 + (d + 1) < L.length := (List.getElem?_eq_some_iff.1 hr).1
    have hq : L[i + 1 + d]? = some (L[i + 1 + d]'(by omega)) := List.getElem?_eq_getElem _
    have h1 := gok_lt h hp d hq
    have h2 := gok_step h hq hr
    omega
/-- Two edges between the same nodes are one. -/
theorem gok_inj {N : Int} {L : List Ed} (h : gok N L = true) {i j : Nat} {p r : Ed} (hp : L[i]? = some p) (hr : L[j]? = some r) (h1 : p.1 = r.1) (h2 : p.2.1 = r.2.1) : i = j := by
  rcases Nat.lt_trichotomy i j with hlt | rfl | hlt
  · have := gok_lt h hp (j - (i + 1)) (r := r) (by rw [show i + 1 + (j - (i + 1)) = j by omega]; exact hr)
    omega
  · rfl
  · have := gok_lt h hr (i - (j + 1)) (r := p) (by rw [show j + 1 + (i - (j + 1)) = i by omega]; exact hp)
    omega

/-! What an edge costs -/
def Far : Int := 1000000
/-- The cost of the last edge from x to y, or Far. -/
def cst (L : List Ed) (x y : Int) : Int := L.foldl (fun c e => if e.1 = x ∧ e.2.1 = y then e.2.2 else c) Far
theorem cst_snoc (L : List Ed) (e : Ed) (x y : Int) : cst (L ++ [e]) x y = if e.1 = x ∧ e.2.1 = y then e.2.2 else cst L x y := by
  unfold cst; rw [List.foldl_append]; rfl
theorem cst_nil (x y : Int) : cst [] x y = Far := rfl
theorem foldl_no {x y : Int} : ∀ (L : List Ed) (c : Int), (∀ e ∈ L, ¬ (e.1 = x ∧ e.2.1 = y)) → L.foldl (fun c e => if e.1 = x ∧ e.2.1 = y then e.2.2 else c) c = c
  | [], _, _ => rfl
  | e :: L, c, h => by
    rw [List.foldl_cons, if_neg (h e (by simp))]
    exact foldl_no L c fun e' he => h e' (by simp [he])
theorem cst_no {x y : Int} {L : List Ed} (h : ∀ e ∈ L, ¬ (e.1 = x ∧ e.2.1 = y)) : cst L x y = Far := foldl_no L Far h
theorem cst_take {N : Int} {L : List Ed} (h : gok N L = true) {i : Nat} {p : Ed} (hp : L[i]? = some p) : ∀ k, i < k → cst (L.take k) p.1 p.2.1 = p.2.2
  | 0, hk => absurd hk (Nat.not_lt_zero _)
  | k + 1, hk => by
    by_cases hl : k < L.length
    · have hq : L[k]? = some L[k] := List.getElem?_eq_getElem _
      rw [take_snoc3 hq, cst_snoc]
      by_cases e : i = k
      · subst e
        have : L[i] = p := by rw [hp] at hq; exact (Option.some.inj hq).symm
        rw [this, if_pos ⟨rfl, rfl⟩]
      · rw [if_neg (fun hh => e (gok_inj h hp hq hh.1.symm hh.2.symm))]
        exact cst_take h hp k (by omega)
    · have hi : i < L.length := (List.getElem?_eq_some_iff.1 hp).1
      rw [List.take_of_length_le (by omega)]
      have := cst_take h hp k (by omega)
      rwa [List.take_of_length_le (by omega)] at this
theorem cst_mem {N : Int} {L : List Ed} (h : gok N L = true) {e : Ed} (he : e ∈ L) : cst L e.1 e.2.1 = e.2.2 := by
  obtain ⟨i, hi⟩ := List.getElem?_of_mem he
  have hl : i < L.length := (List.getElem?_eq_some_iff.1 hi).1
  have := cst_take h hi L.length hl
  rwa [List.take_length] at this
theorem cst_cases {N : Int} {L : List Ed} (h : gok N L = true) (x y : Int) : cst L x y = Far ∧ (∀ e ∈ L, ¬ (e.1 = x ∧ e.2.1 = y)) ∨ ∃ e ∈ L, e.1 = x ∧ e.2.1 = y ∧ cst L x y = e.2.2 := by
  by_cases hx : ∃ e ∈ L, e.1 = x ∧ e.2.1 = y
  · obtain ⟨e, he, rfl, rfl⟩ := hx
    exact .inr ⟨e, he, rfl, rfl, cst_mem h he⟩
  · have hx' : ∀ e ∈ L, ¬ (e.1 = x ∧ e.2.1 = y) := fun e he hh => hx ⟨e, he, hh⟩
    exact .inl ⟨cst_no hx', hx'⟩
theorem cst_bound {N : Int} {L : List Ed} (h : gok N L = true) (x y : Int) : 1 ≤ cst L x y ∧ cst L x y ≤ 1000000 := by
  rcases cst_cases h x y with ⟨h1, _⟩ | ⟨_, he, _, _, h1⟩
  · rw [h1]; unfold Far; omega
  · have := gok_mem h he; rw [h1]; omega
theorem cst_self {N : Int} {L : List Ed} (h : gok N L = true) (x : Int) : cst L x x = Far :=
  cst_no fun _ he hh => (gok_mem h he).2.2.1 (hh.1.trans hh.2.symm)
theorem cst_out {N : Int} {L : List Ed} (h : gok N L = true) {x y : Int} (hx : ¬ (0 ≤ x ∧ x < N) ∨ ¬ (0 ≤ y ∧ y < N)) : cst L x y = Far :=
  cst_no fun e he hh => by
    have := gok_mem h he
    rw [hh.1, hh.2] at this
    rcases hx with hx | hx
    · exact hx this.1
    · exact hx this.2.1
theorem cst_near {N : Int} {L : List Ed} (h : gok N L = true) {x y : Int} : cst L x y ≠ Far → (0 ≤ x ∧ x < N) ∧ (0 ≤ y ∧ y < N) ∧ x ≠ y ∧ cst L x y ≤ 1000 := by
  intro hne
  rcases cst_cases h x y with ⟨h1, _⟩ | ⟨e, he, rfl, rfl, h1⟩
  · exact absurd h1 hne
  · have := gok_mem h he; rw [h1]; exact ⟨this.1, this.2.1, this.2.2.1, this.2.2.2.2⟩

end Go.Proofs.Ytjenjdhoblcohaa
