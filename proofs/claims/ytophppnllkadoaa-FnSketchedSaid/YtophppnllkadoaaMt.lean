/- Plain mathematics of lists of heavy hitters (Key, Count, Err) and of additions (Key, N). It imports no program. -/
import Derived.WalkKit
namespace Go.Proofs.Ytophppnllkadoaa
open Go.RowKit

abbrev Hv := Int × Int × Int
def flat (L : List Hv) : List Int := L.flatMap fun r => [r.1, r.2.1, r.2.2]
theorem flat_cons (r : Hv) (L : List Hv) : flat (r :: L) = r.1 :: r.2.1 :: r.2.2 :: flat L := rfl
theorem flat_one (r : Hv) : flat [r] = [r.1, r.2.1, r.2.2] := rfl
theorem flat_len : ∀ L : List Hv, (flat L).length = L.length * 3
  | [] => rfl
  | r :: L => by rw [flat_cons]; simp only [List.length_cons, flat_len L]; omega
theorem flat_app (L M : List Hv) : flat (L ++ M) = flat L ++ flat M := by simp [flat]
theorem flat_at : ∀ (L : List Hv) (i : Nat) (r : Hv), L[i]? = some r → (flat L)[i * 3]? = some r.1 ∧ (flat L)[i * 3 + 1]? = some r.2.1 ∧ (flat L)[i * 3 + 2]? = some r.2.2
  | [], i, r, h => by simp at h
  | q :: L, 0, r, h => by
    simp only [List.getElem?_cons_zero, Option.some.injEq] at h
    subst h
    exact ⟨rfl, rfl, rfl⟩
  | q :: L, i + 1, r, h => by
    have := flat_at L i r (by simpa using h)
    rw [flat_cons, show (i + 1) * 3 = i * 3 + 1 + 1 + 1 by omega]
    simpa using this
/-- The elements that a function of integers spells. -/
def eds (Z : Nat → Int) (n : Nat) : List Hv := (List.range n).map fun i => (Z (i * 3), Z (i * 3 + 1), Z (i * 3 + 2))
theorem eds_len (Z : Nat → Int) (n : Nat) : (eds Z n).length = n := by simp [eds]
theorem flat_eds (Z : Nat → Int) : ∀ n, flat (eds Z n) = (List.range (n * 3)).map Z
  | 0 => rfl
  | n + 1 => by
    have h : eds Z (n + 1) = eds Z n ++ [(Z (n * 3), Z (n * 3 + 1), Z (n * 3 + 2))] := by simp [eds, List.range_succ]
    rw [h, flat_app, flat_eds Z n, show (n + 1) * 3 = n * 3 + 1 + 1 + 1 by omega]
    simp only [List.range_succ, List.map_append, List.map_cons, List.map_nil, List.append_assoc]
    rfl
theorem take_snoc3 {α : Type} {L : List α} {k : Nat} {p : α} (h : L[k]? = some p) : L.take (k + 1) = L.take k ++ [p] := by
  rw [List.take_add_one, h]; rfl
theorem at_of_lt {L : List Hv} {i : Nat} (h : i < L.length) : ∃ a b c : Int, L[i]? = some (a, b, c) := ⟨(L[i]'h).1, (L[i]'h).2.1, (L[i]'h).2.2, List.getElem?_eq_getElem h⟩
theorem lt_of_at {α : Type} {L : List α} {i : Nat} {r : α} (hr : L[i]? = some r) : i < L.length := by
  rcases Nat.lt_or_ge i L.length with h1 | h1
  · exact h1
  · rw [List.getElem?_eq_none h1] at hr; simp at hr
/-- Additions: key and number. -/
abbrev Ad := Int × Int
def flat2 (L : List Ad) : List Int := L.flatMap fun r => [r.1, r.2]
theorem flat2_cons (r : Ad) (L : List Ad) : flat2 (r :: L) = r.1 :: r.2 :: flat2 L := rfl
theorem flat2_len : ∀ L : List Ad, (flat2 L).length = L.length * 2
  | [] => rfl
  | r :: L => by rw [flat2_cons]; simp only [List.length_cons, flat2_len L]; omega
theorem flat2_app (L M : List Ad) : flat2 (L ++ M) = flat2 L ++ flat2 M := by simp [flat2]
theorem flat2_at : ∀ (L : List Ad) (i : Nat) (r : Ad), L[i]? = some r → (flat2 L)[i * 2]? = some r.1 ∧ (flat2 L)[i * 2 + 1]? = some r.2
  | [], i, r, h => by simp at h
  | q :: L, 0, r, h => by
    simp only [List.getElem?_cons_zero, Option.some.injEq] at h
    subst h
    exact ⟨rfl, rfl⟩
  | q :: L, i + 1, r, h => by
    have := flat2_at L i r (by simpa using h)
    rw [flat2_cons, show (i + 1) * 2 = i * 2 + 1 + 1 by omega]
    simpa using this
def ads (Z : Nat → Int) (n : Nat) : List Ad := (List.range n).map fun i => (Z (i * 2), Z (i * 2 + 1))
theorem ads_len (Z : Nat → Int) (n : Nat) : (ads Z n).length = n := by simp [ads]
theorem flat2_ads (Z : Nat → Int) : ∀ n, flat2 (ads Z n) = (List.range (n * 2)).map Z
  | 0 => rfl
  | n + 1 => by
    have h : ads Z (n + 1) = ads Z n ++ [(Z (n * 2), Z (n * 2 + 1))] := by simp [ads, List.range_succ]
    rw [h, flat2_app, flat2_ads Z n, show (n + 1) * 2 = n * 2 + 1 + 1 by omega]
    simp only [List.range_succ, List.map_append, List.map_cons, List.map_nil, List.append_assoc]
    rfl
theorem at2_of_lt {L : List Ad} {i : Nat} (h : i < L.length) : ∃ a b : Int, L[i]? = some (a, b) := ⟨(L[i]'h).1, (L[i]'h).2, List.getElem?_eq_getElem h⟩

def inB (x a b : Int) : Bool := decide (a ≤ x) && decide (x ≤ b)
theorem inB_true {x a b : Int} (h1 : a ≤ x) (h2 : x ≤ b) : inB x a b = true := by unfold inB; rw [decide_eq_true h1, decide_eq_true h2]; rfl
theorem inB_false {x a b : Int} (h : x < a ∨ b < x) : inB x a b = false := by
  unfold inB
  rcases h with h | h
  · rw [decide_eq_false (by omega : ¬ a ≤ x), Bool.false_and]
  · rw [decide_eq_false (by omega : ¬ x ≤ b), Bool.and_false]
theorem inB_iff {x a b : Int} : inB x a b = true ↔ a ≤ x ∧ x ≤ b := by unfold inB; rw [Bool.and_eq_true, decide_eq_true_iff, decide_eq_true_iff]
def keyB (k : Int) : Bool := inB k 0 1000000000
theorem keyB_iff {k : Int} : keyB k = true ↔ 0 ≤ k ∧ k ≤ 1000000000 := inB_iff
/-- Whether an element is valid: Key, Count, Err. -/
def hvB (k c e : Int) : Bool := keyB k && (inB c 1 1000000000000 && inB e 0 (c - 1))
theorem hvB_iff {k c e : Int} : hvB k c e = true ↔ (0 ≤ k ∧ k ≤ 1000000000) ∧ (1 ≤ c ∧ c ≤ 1000000000000) ∧ (0 ≤ e ∧ e ≤ c - 1) := by
  unfold hvB
  rw [Bool.and_eq_true, Bool.and_eq_true, keyB_iff, inB_iff, inB_iff]
/-- Whether the one stands ahead of the other: Key and Count of both. -/
def ahP (k c k' c' : Int) : Bool := decide (c > c') || (decide (c = c') && decide (k < k'))
theorem ahP_iff {k c k' c' : Int} : ahP k c k' c' = true ↔ c > c' ∨ (c = c' ∧ k < k') := by unfold ahP; simp [Bool.or_eq_true, Bool.and_eq_true]
def ah (p q : Hv) : Bool := ahP p.1 p.2.1 q.1 q.2.1
theorem ah_iff {p q : Hv} : ah p q = true ↔ p.2.1 > q.2.1 ∨ (p.2.1 = q.2.1 ∧ p.1 < q.1) := ahP_iff
theorem ah_trans {p q r : Hv} (h1 : ah p q = true) (h2 : ah q r = true) : ah p r = true := by rw [ah_iff] at *; omega
theorem ah_asym {p q : Hv} (h1 : ah p q = true) : ah q p = false := by rw [Bool.eq_false_iff, ne_eq]; intro h; rw [ah_iff] at *; omega
theorem ah_total {p q : Hv} (h : p.1 ≠ q.1) (h1 : ah p q = false) : ah q p = true := by rw [Bool.eq_false_iff, ne_eq, ah_iff] at h1; rw [ah_iff]; omega
/-- Whether the list is valid. -/
def TopP (L : List Hv) : Prop := L.length ≤ 4 ∧ (∀ (i : Nat) (r : Hv), L[i]? = some r → hvB r.1 r.2.1 r.2.2 = true) ∧ ∀ (i j : Nat) (p r : Hv), i < j → L[i]? = some p → L[j]? = some r → p.1 ≠ r.1 ∧ ah p r = true
noncomputable def topB (L : List Hv) : Bool := @decide (TopP L) (Classical.propDecidable _)
theorem topB_iff {L : List Hv} : topB L = true ↔ TopP L := by unfold topB; exact @decide_eq_true_iff _ (Classical.propDecidable _)
theorem topB_no {L : List Hv} (h : ¬ TopP L) : topB L = false := by rw [Bool.eq_false_iff, ne_eq, topB_iff]; exact h
theorem topB_big {L : List Hv} (h : 4 < L.length) : topB L = false := topB_no fun t => by have := t.1; omega
/-- What the model asks of element i, apart from the keys. -/
def schk (L : List Hv) (i : Nat) : Prop := ∃ r : Hv, L[i]? = some r ∧ hvB r.1 r.2.1 r.2.2 = true ∧ ∀ p : Hv, 0 < i → L[i - 1]? = some p → ah p r = true
def skey (L : List Hv) (i : Nat) : Prop := ∀ (k : Nat) (p r : Hv), k < i → L[k]? = some p → L[i]? = some r → p.1 ≠ r.1
theorem top_of_steps {L : List Hv} (h0 : L.length ≤ 4) (h1 : ∀ i, i < L.length → schk L i) (h2 : ∀ i, i < L.length → skey L i) : TopP L := by
  have hs : ∀ (d i : Nat) (p r : Hv), L[i]? = some p → L[i + d + 1]? = some r → ah p r = true := by
    intro d
    induction d with
    | zero =>
      intro i p r hp hr
      obtain ⟨r', hr', _, hx⟩ := h1 (i + 0 + 1) (lt_of_at hr)
      rw [hr] at hr'
      obtain rfl := Option.some.inj hr'
      exact hx p (by omega) (by rw [show i + 0 + 1 - 1 = i by omega]; exact hp)
    | succ d ih =>
      intro i p r hp hr
      have hl := lt_of_at hr
      obtain ⟨q, hq⟩ : ∃ q, L[i + d + 1]? = some q := ⟨_, List.getElem?_eq_getElem (by omega)⟩
      obtain ⟨r', hr', _, hx⟩ := h1 (i + (d + 1) + 1) hl
      rw [hr] at hr'
      obtain rfl := Option.some.inj hr'
      exact ah_trans (ih i p q hp hq) (hx q (by omega) (by rw [show i + (d + 1) + 1 - 1 = i + d + 1 by omega]; exact hq))
  refine ⟨h0, fun i r hr => ?_, fun i j p r hij hp hr => ⟨h2 j (lt_of_at hr) i p r hij hp hr, hs (j - i - 1) i p r hp (by rw [show i + (j - i - 1) + 1 = j by omega]; exact hr)⟩⟩
  obtain ⟨r', hr', hx, _⟩ := h1 i (lt_of_at hr)
  rw [hr] at hr'
  obtain rfl := Option.some.inj hr'
  exact hx
theorem TopP.at_ {L : List Hv} (h : TopP L) {i : Nat} {r : Hv} (hr : L[i]? = some r) : hvB r.1 r.2.1 r.2.2 = true := h.2.1 i r hr
theorem TopP.ahead {L : List Hv} (h : TopP L) {i : Nat} {p r : Hv} (hp : L[i]? = some p) (hr : L[i + 1]? = some r) : ah p r = true := (h.2.2 i (i + 1) p r (by omega) hp hr).2
/-- Where a key stands first: its place, or the list's length. -/
def fndN : List Hv → Int → Nat
  | [], _ => 0
  | r :: L, k => if r.1 = k then 0 else fndN L k + 1
theorem fndN_le : ∀ (L : List Hv) (k : Int), fndN L k ≤ L.length
  | [], _ => Nat.le_refl _
  | r :: L, k => by have := fndN_le L k; unfold fndN; split <;> simp <;> omega
theorem fndN_uniq : ∀ (L : List Hv) (k : Int) (i : Nat) (r : Hv), L[i]? = some r → r.1 = k → (∀ (j : Nat) (p : Hv), j < i → L[j]? = some p → p.1 ≠ k) → fndN L k = i
  | [], _, _, _, h, _, _ => by simp at h
  | q :: L, k, 0, r, h, hk, _ => by
    simp only [List.getElem?_cons_zero, Option.some.injEq] at h
    subst h
    unfold fndN
    rw [if_pos hk]
  | q :: L, k, i + 1, r, h, hk, hn => by
    unfold fndN
    rw [if_neg (hn 0 q (by omega) rfl), fndN_uniq L k i r (by simpa using h) hk (fun j p hj hp => hn (j + 1) p (by omega) (by simpa using hp))]
theorem fndN_none : ∀ (L : List Hv) (k : Int), (∀ (j : Nat) (p : Hv), L[j]? = some p → p.1 ≠ k) → fndN L k = L.length
  | [], _, _ => rfl
  | q :: L, k, hn => by
    unfold fndN
    rw [if_neg (hn 0 q rfl), fndN_none L k (fun j p hp => hn (j + 1) p (by simpa using hp))]
    rfl
theorem fndN_spec : ∀ (L : List Hv) (k : Int), fndN L k < L.length → (∃ r : Hv, L[fndN L k]? = some r ∧ r.1 = k) ∧ ∀ (j : Nat) (p : Hv), j < fndN L k → L[j]? = some p → p.1 ≠ k
  | [], _, h => by simp [fndN] at h
  | q :: L, k, h => by
    unfold fndN at h ⊢
    by_cases e : q.1 = k
    · rw [if_pos e]; exact ⟨⟨q, rfl, e⟩, fun j p hj => by omega⟩
    · rw [if_neg e] at h ⊢
      obtain ⟨⟨r, h1, h2⟩, h3⟩ := fndN_spec L k (by simp at h; omega)
      refine ⟨⟨r, by simpa using h1, h2⟩, fun j p hj hp => ?_⟩
      cases j with
      | zero => simp only [List.getElem?_cons_zero, Option.some.injEq] at hp; subst hp; exact e
      | succ j => exact h3 j p (by omega) (by simpa using hp)
theorem fndN_not : ∀ (L : List Hv) (k : Int), fndN L k = L.length → ∀ (j : Nat) (p : Hv), L[j]? = some p → p.1 ≠ k
  | [], _, _, j, p, hp => by simp at hp
  | q :: L, k, h, j, p, hp => by
    unfold fndN at h
    by_cases e : q.1 = k
    · rw [if_pos e] at h; simp at h
    · rw [if_neg e] at h
      cases j with
      | zero => simp only [List.getElem?_cons_zero, Option.some.injEq] at hp; subst hp; exact e
      | succ j => exact fndN_not L k (by simp at h; omega) j p (by simpa using hp)
/-- The index that the program's find answers. -/
def fndI (L : List Hv) (k : Int) : Int := if fndN L k < L.length then (fndN L k : Int) else -1
theorem skey_fnd {L : List Hv} {i : Nat} {r : Hv} (hr : L[i]? = some r) : fndI L r.1 = (i : Int) ↔ skey L i := by
  unfold fndI
  have hi := lt_of_at hr
  constructor
  · intro h
    split at h
    · have e : fndN L r.1 = i := by omega
      intro k p r' hk hp hr'
      rw [hr] at hr'
      obtain rfl := Option.some.inj hr'
      have := (fndN_spec L r.1 (by omega)).2 k p (by omega) hp
      exact this
    · omega
  · intro h
    rw [fndN_uniq L r.1 i r hr rfl (fun j p hj hp => h j p r hj hp hr), if_pos hi]
/-- The list is valid exactly if each element is, each key stands first where it stands, and none stands ahead of the one before it. -/
theorem top_of_prog {L : List Hv} (h0 : L.length ≤ 4) (h1 : ∀ (i : Nat) (r : Hv), L[i]? = some r → hvB r.1 r.2.1 r.2.2 = true ∧ skey L i) (h2 : ∀ (i : Nat) (p r : Hv), L[i]? = some p → L[i + 1]? = some r → ah r p = false) : TopP L := by
  refine top_of_steps h0 (fun i hi => ?_) (fun i hi => (h1 i _ (List.getElem?_eq_getElem hi)).2)
  refine ⟨_, List.getElem?_eq_getElem hi, (h1 i _ (List.getElem?_eq_getElem hi)).1, fun p h0 hp => ?_⟩
  obtain ⟨j, rfl⟩ : ∃ j, i = j + 1 := ⟨i - 1, by omega⟩
  rw [show j + 1 - 1 = j by omega] at hp
  exact ah_total (fun e => (h1 (j + 1) _ (List.getElem?_eq_getElem hi)).2 j p _ (by omega) hp (List.getElem?_eq_getElem hi) e.symm) (h2 j p _ hp (List.getElem?_eq_getElem hi))
theorem TopP.key {L : List Hv} (h : TopP L) (i : Nat) : skey L i := fun k p r hk hp hr => (h.2.2 k i p r hk hp hr).1

end Go.Proofs.Ytophppnllkadoaa
