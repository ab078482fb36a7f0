/- Plain mathematics of loop-free alternates: which graphs and nodes are allowed, what an alternate, the cheapest one, a node-safe one and a remote node is. -/
import Derived.Test.YtjenjdhoblcohaaMp
namespace Go.Proofs.Ytjenjdhoblcohaa
open Go.RowKit

/-- Whether every edge has one back. -/
def pairB (L : List Ed) : Bool := L.all fun e => decide (cst L e.2.1 e.1 ≠ Far)
/-- Whether the chapter allows the graph and the nodes. -/
def g10 (N : Int) (L : List Ed) (xs : List Int) : Bool := gok N L && pairB L && xs.all (ndB N)
def nearB (L : List Ed) (s n : Int) : Bool := decide (cst L s n ≠ Far)
/-- Whether y lies on none of the cheapest ways from x to d, though ways lead over it. -/
def avB (N : Int) (L : List Ed) (x y d : Int) : Bool := decide (dsT N L x y + dsT N L y d < Far) && decide (dsT N L x d < dsT N L x y + dsT N L y d)
def lfB (N : Int) (L : List Ed) (s n d : Int) : Bool := nearB L s n && avB N L n s d
theorem g10_gok {N : Int} {L : List Ed} {xs : List Int} (h : g10 N L xs = true) : gok N L = true := by
  unfold g10 at h; rw [Bool.and_eq_true, Bool.and_eq_true] at h; exact h.1.1
theorem g10_pair {N : Int} {L : List Ed} {xs : List Int} (h : g10 N L xs = true) : pairB L = true := by
  unfold g10 at h; rw [Bool.and_eq_true, Bool.and_eq_true] at h; exact h.1.2
theorem g10_nodes {N : Int} {L : List Ed} {xs : List Int} (h : g10 N L xs = true) : ∀ x ∈ xs, 0 ≤ x ∧ x < N := by
  unfold g10 at h; rw [Bool.and_eq_true, Bool.and_eq_true, List.all_eq_true] at h
  intro x hx
  have := h.2 x hx
  unfold ndB at this
  rw [inB_iff] at this
  omega
theorem g10_of {N : Int} {L : List Ed} {xs : List Int} (h1 : gok N L = true) (h2 : pairB L = true) (h3 : ∀ x ∈ xs, 0 ≤ x ∧ x < N) : g10 N L xs = true := by
  unfold g10
  rw [h1, h2, Bool.true_and, Bool.true_and, List.all_eq_true]
  intro x hx
  have := h3 x hx
  unfold ndB
  rw [inB_iff]
  omega
theorem pair_back {N : Int} {L : List Ed} (hG : gok N L = true) (hp : pairB L = true) {x y : Int} (h : cst L x y ≠ Far) : cst L y x ≠ Far := by
  rcases cst_cases hG x y with ⟨h1, _⟩ | ⟨e, he, rfl, rfl, _⟩
  · exact absurd h1 h
  · unfold pairB at hp
    rw [List.all_eq_true] at hp
    exact of_decide_eq_true (hp e he)
theorem dsT_nn {N : Int} {L : List Ed} (hG : gok N L = true) {x : Int} (hx : 0 ≤ x ∧ x < N) (y : Int) : 0 ≤ dsT N L x y := by
  rcases dsT_tr hG (s := x) y with e | ⟨t, h1, _, h3⟩
  · rw [e]; decide
  · rw [← h3]
    obtain ⟨b1, b2, b3, b4, b5⟩ := h1.bounds hG hx
    omega
theorem dsT_far {N : Int} {L : List Ed} (hG : gok N L = true) {x : Int} (hx : 0 ≤ x ∧ x < N) (y : Int) : dsT N L x y = Far ∨ dsT N L x y ≤ 10000 := by
  rcases dsT_tr hG (s := x) y with e | ⟨t, h1, h2, h3⟩
  · exact .inl e
  · right
    obtain ⟨t', c1, c2, c3, c4⟩ := h1.simple hG
    obtain ⟨b1, b2, b3, b4, b5⟩ := c1.bounds hG hx
    have hN := gok_parts hG
    have hl : t'.2.length ≤ N.toNat := nodup_bound N.toNat t'.2 c4 (fun x hx => by have := b5 x hx; omega)
    have := dsT_le hG hx c1
    rw [c2, h2] at this
    omega
theorem far_val : Far = 1000000 := rfl
theorem cst_le {N : Int} {L : List Ed} (hG : gok N L = true) {x y : Int} (h : cst L x y ≠ Far) : 1 ≤ cst L x y ∧ cst L x y ≤ 1000 := by
  have h1 := (cst_bound hG x y).1
  have h2 := (cst_near hG h).2.2.2
  exact ⟨h1, h2⟩
theorem cst_lt_far {N : Int} {L : List Ed} (hG : gok N L = true) {x y : Int} : cst L x y < Far ↔ cst L x y ≠ Far := by
  have := cst_bound hG x y
  rw [far_val]
  omega
/-- A neighbor of s other than s. -/
theorem nearB_iff {N : Int} {L : List Ed} (hG : gok N L = true) {s n : Int} : nearB L s n = true ↔ s ≠ n ∧ cst L s n < Far := by
  unfold nearB
  rw [decide_eq_true_iff, cst_lt_far hG]
  refine ⟨fun h => ⟨fun e => ?_, h⟩, fun h => h.2⟩
  subst e
  exact h (cst_self hG s)
/-- What the program asks is what the model asks. -/
theorem lfB_iff {N : Int} {L : List Ed} (hG : gok N L = true) {s n d : Int} (hs : 0 ≤ s ∧ s < N) (hn : 0 ≤ n ∧ n < N) :
    lfB N L s n d = true ↔ s ≠ d ∧ nearB L s n = true ∧ dsT N L n d < Far ∧ dsT N L n s < Far ∧ dsT N L s d < Far ∧ dsT N L n d < dsT N L n s + dsT N L s d := by
  have h1 := dsT_nn hG hn s
  have h2 := dsT_nn hG hs d
  have h3 := dsT_far hG hn s
  have h4 := dsT_far hG hs d
  unfold lfB avB
  rw [Bool.and_eq_true, Bool.and_eq_true, decide_eq_true_iff, decide_eq_true_iff]
  rw [far_val] at *
  constructor
  · rintro ⟨a, b, c⟩
    refine ⟨fun e => ?_, a, by omega, by omega, by omega, c⟩
    subst e
    have := dsT_self hG hs
    omega
  · rintro ⟨_, a, b, c, d', e⟩
    exact ⟨a, by omega, e⟩
/-- The alternates, in ascending order. -/
def altB (N : Int) (L : List Ed) (s f d n : Int) : Bool := !(n == f) && lfB N L s n d
def nodesL (N : Int) (p : Int → Bool) : List Int := ((List.range N.toNat).map fun (i : Nat) => (i : Int)).filter p
def repB (N : Int) (L : List Ed) (s f d : Int) : Bool := g10 N L [s, f, d] && nearB L s f
def altL (N : Int) (L : List Ed) (s f d : Int) : List Int := if repB N L s f d = true then nodesL N (altB N L s f d) else []
theorem nodesL_mem {N : Int} {p : Int → Bool} {x : Int} : x ∈ nodesL N p ↔ (0 ≤ x ∧ x < N) ∧ p x = true := by
  unfold nodesL
  rw [List.mem_filter, List.mem_map]
  constructor
  · rintro ⟨⟨i, hi, rfl⟩, h⟩
    rw [List.mem_range] at hi
    exact ⟨by omega, h⟩
  · rintro ⟨h1, h⟩
    exact ⟨⟨x.toNat, List.mem_range.2 (by omega), by omega⟩, h⟩
/-- The first i of the nodes. -/
def firstN (i : Nat) (p : Int → Bool) : List Int := ((List.range i).map fun (j : Nat) => (j : Int)).filter p
theorem firstN_zero (p : Int → Bool) : firstN 0 p = [] := rfl
theorem firstN_yes {i : Nat} {p : Int → Bool} (h : p (i : Int) = true) : firstN (i + 1) p = firstN i p ++ [(i : Int)] := by
  unfold firstN
  rw [List.range_succ, List.map_append, List.filter_append]
  simp [h]
theorem firstN_no {i : Nat} {p : Int → Bool} (h : p (i : Int) = false) : firstN (i + 1) p = firstN i p := by
  unfold firstN
  rw [List.range_succ, List.map_append, List.filter_append]
  simp [h]
theorem firstN_len (i : Nat) (p : Int → Bool) : (firstN i p).length ≤ i := by
  unfold firstN
  refine Nat.le_trans (List.length_filter_le _ _) ?_
  simp
theorem firstN_mem {i : Nat} {p : Int → Bool} {x : Int} (h : x ∈ firstN i p) : 0 ≤ x ∧ x < (i : Int) ∧ p x = true := by
  unfold firstN at h
  rw [List.mem_filter, List.mem_map] at h
  obtain ⟨⟨j, hj, rfl⟩, h2⟩ := h
  rw [List.mem_range] at hj
  exact ⟨by omega, by omega, h2⟩
/-- The cheapest of a list, the first of equal ones. -/
def pickS (c : Int → Int) : List Int → Int × Int → Int × Int
  | [], b => b
  | x :: l, b => pickS c l (if b.1 < 0 ∨ c x < b.2 then (x, c x) else b)
def bstL (N : Int) (L : List Ed) (s f d : Int) : Int := (pickS (fun n => cst L s n + dsT N L n d) (altL N L s f d) (-1, 0)).1
theorem pickS_snoc (c : Int → Int) (x : Int) : ∀ (l : List Int) (b : Int × Int), pickS c (l ++ [x]) b = (if (pickS c l b).1 < 0 ∨ c x < (pickS c l b).2 then (x, c x) else pickS c l b)
  | [], b => rfl
  | y :: l, b => by rw [List.cons_append]; exact pickS_snoc c x l _
/-- Node-safe neighbors. -/
def safeB (N : Int) (L : List Ed) (s n f d : Int) : Bool := repB N L s f d && ndB N n && altB N L s f d n && avB N L n f d
/-- Whether no cheapest way from x to y goes over the link of s and f. -/
def sprB (N : Int) (L : List Ed) (s f x y : Int) : Bool := decide (dsT N L x y ≠ Far) && decide (dsT N L x y < dsT N L x s + cst L s f + dsT N L f y) && decide (dsT N L x y < dsT N L x f + cst L f s + dsT N L s y)
def remB (N : Int) (L : List Ed) (s f d p : Int) : Bool := !(p == s) && !(p == f) && sprB N L s f s p && sprB N L s f p d
def remL (N : Int) (L : List Ed) (s f d : Int) : List Int := if repB N L s f d = true ∧ s ≠ d then nodesL N (remB N L s f d) else []
theorem repB_parts {N : Int} {L : List Ed} {s f d : Int} (h : repB N L s f d = true) : gok N L = true ∧ pairB L = true ∧ (0 ≤ s ∧ s < N) ∧ (0 ≤ f ∧ f < N) ∧ (0 ≤ d ∧ d < N) ∧ cst L s f ≠ Far := by
  unfold repB at h
  rw [Bool.and_eq_true] at h
  have := g10_nodes h.1
  refine ⟨g10_gok h.1, g10_pair h.1, this s (by simp), this f (by simp), this d (by simp), ?_⟩
  have := h.2
  unfold nearB at this
  exact of_decide_eq_true this
/-- The triangle over an edge, whatever is far. -/
theorem over_le {N : Int} {L : List Ed} (hG : gok N L = true) {x a b y : Int} (hx : 0 ≤ x ∧ x < N) (ha : 0 ≤ a ∧ a < N) (hb : 0 ≤ b ∧ b < N) : dsT N L x y ≤ dsT N L x a + cst L a b + dsT N L b y := by
  have h1 := dsT_nn hG hx a
  have h2 := dsT_nn hG hb y
  have h3 := dsT_far hG hx a
  have h4 := dsT_far hG hb y
  have h5 := dsT_far hG hx y
  have h6 := (cst_bound hG a b).1
  by_cases hc : cst L a b = Far
  · rw [far_val] at *; omega
  · rcases h3 with h3 | h3
    · rw [far_val] at *; omega
    rcases h4 with h4 | h4
    · rw [far_val] at *; omega
    have e1 := dsT_edge hG ha hc
    have e2 : dsT N L x b ≤ dsT N L x a + dsT N L a b := dsT_tri hG hx (by rw [far_val]; omega) (by have := cst_le hG hc; rw [far_val]; omega)
    have e3 := cst_le hG hc
    have e4 : dsT N L x y ≤ dsT N L x b + dsT N L b y := dsT_tri hG hx (by rw [far_val]; omega) (by rw [far_val]; omega)
    omega
/-- What the model asks of a remote node. -/
theorem sprB_iff {N : Int} {L : List Ed} (hG : gok N L = true) {s f x y : Int} (hx : 0 ≤ x ∧ x < N) (hs : 0 ≤ s ∧ s < N) (hf : 0 ≤ f ∧ f < N) :
    sprB N L s f x y = true ↔ dsT N L x y ≠ Far ∧ dsT N L x s + cst L s f + dsT N L f y ≠ dsT N L x y ∧ dsT N L x f + cst L f s + dsT N L s y ≠ dsT N L x y := by
  have h1 := over_le (y := y) hG hx hs hf
  have h2 := over_le (y := y) hG hx hf hs
  unfold sprB
  rw [Bool.and_eq_true, Bool.and_eq_true, decide_eq_true_iff, decide_eq_true_iff, decide_eq_true_iff]
  constructor
  · rintro ⟨⟨a, b⟩, c⟩; exact ⟨a, by omega, by omega⟩
  · rintro ⟨a, b, c⟩; exact ⟨⟨a, by omega⟩, by omega⟩
/-- Around the link everything is near: the distance over the neighbors is finite. -/
theorem near_fin {N : Int} {L : List Ed} (hG : gok N L = true) (hp : pairB L = true) {s n f : Int} (h1 : cst L s n ≠ Far) (h2 : cst L s f ≠ Far) : dsT N L n f < Far := by
  have g1 := cst_near hG h1
  have g2 := cst_near hG h2
  have b1 := pair_back hG hp h1
  have e1 := dsT_edge hG g1.2.1 b1
  have e2 := dsT_edge hG g1.1 h2
  have l1 := cst_le hG b1
  have l2 := cst_le hG h2
  have := dsT_tri hG (i := n) (k := s) (j := f) g1.2.1 (by rw [far_val]; omega) (by rw [far_val]; omega)
  rw [far_val]; omega
theorem near_fin2 {N : Int} {L : List Ed} (hG : gok N L = true) (hp : pairB L = true) {s f d : Int} (h2 : cst L s f ≠ Far) (hd : dsT N L s d < Far) : dsT N L f d < Far := by
  have g2 := cst_near hG h2
  have b1 := pair_back hG hp h2
  have e1 := dsT_edge hG g2.2.1 b1
  have l1 := cst_le hG b1
  have h3 := dsT_far hG g2.1 d
  have := dsT_tri hG (i := f) (k := s) (j := d) g2.2.1 (by rw [far_val]; omega) hd
  rw [far_val] at *; omega
/-- What the model asks of a node-safe neighbor. -/
theorem safeB_iff {N : Int} {L : List Ed} {s n f d : Int} : safeB N L s n f d = true ↔ f ≠ d ∧ n ∈ altL N L s f d ∧ dsT N L n d < dsT N L n f + dsT N L f d := by
  unfold safeB altL
  rw [Bool.and_eq_true, Bool.and_eq_true, Bool.and_eq_true]
  by_cases hr : repB N L s f d = true
  · rw [if_pos hr, nodesL_mem]
    obtain ⟨hG, hp, hs, hf, hd, hc⟩ := repB_parts hr
    have e : ndB N n = true ↔ (0 ≤ n ∧ n < N) := by unfold ndB; rw [inB_iff]; omega
    rw [e]
    unfold avB
    rw [Bool.and_eq_true, decide_eq_true_iff, decide_eq_true_iff]
    constructor
    · rintro ⟨⟨⟨_, hn⟩, ha⟩, h1, h2⟩
      refine ⟨fun e => ?_, ⟨hn, ha⟩, h2⟩
      subst e
      have := dsT_self hG hf
      omega
    · rintro ⟨h0, ⟨hn, ha⟩, h2⟩
      refine ⟨⟨⟨hr, hn⟩, ha⟩, ?_, h2⟩
      unfold altB at ha
      rw [Bool.and_eq_true] at ha
      have hl := (lfB_iff hG hs hn).1 ha.2
      have hnr := hl.2.1
      unfold nearB at hnr
      have hc1 := of_decide_eq_true hnr
      have f1 := near_fin hG hp hc1 hc
      have f2 := near_fin2 hG hp hc hl.2.2.2.2.1
      have l1 := dsT_far hG hn f
      have l2 := dsT_far hG hf d
      rw [far_val] at *
      omega
  · rw [if_neg hr]
    constructor
    · rintro ⟨⟨⟨h, _⟩, _⟩, _⟩; exact absurd h hr
    · rintro ⟨_, h, _⟩; cases h
/-- Pairs of nodes, counted off. -/
def cntB (p : Nat → Bool) : Nat → Nat
  | 0 => 0
  | u + 1 => cntB p u + (if p u = true then 1 else 0)
theorem cntB_le (p : Nat → Bool) : ∀ u, cntB p u ≤ u
  | 0 => Nat.le_refl 0
  | u + 1 => by
    have := cntB_le p u
    unfold cntB
    split <;> omega
theorem pair_div {M s d : Nat} (hd : d < M) : (s * M + d) / M = s ∧ (s * M + d) % M = d := by
  have hM : 0 < M := by omega
  constructor
  · rw [Nat.mul_comm, Nat.mul_add_div hM, Nat.div_eq_of_lt hd, Nat.add_zero]
  · rw [Nat.mul_comm, Nat.mul_add_mod, Nat.mod_eq_of_lt hd]
def loopV (N : Int) (L : List Ed) (s n d : Int) : Bool := g10 N L [s, n, d] && lfB N L s n d
/-- A distance lies between 0 and Far. -/
theorem dsT_in {M : Nat} {L : List Ed} (hG : gok (M : Int) L = true) {x : Nat} (hx : x < M) (y : Int) : 0 ≤ dsT (M : Int) L (x : Int) y ∧ dsT (M : Int) L (x : Int) y ≤ 1000000 := by
  have h1 := dsT_nn hG (x := (x : Int)) (by omega) y
  have h2 := dsT_far hG (x := (x : Int)) (by omega) y
  rw [far_val] at h2
  omega
theorem firstN_nodes (M : Nat) (p : Int → Bool) : nodesL (M : Int) p = firstN M p := by unfold nodesL firstN; rw [Int.toNat_natCast]

end Go.Proofs.Ytjenjdhoblcohaa
