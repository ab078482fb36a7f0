/- Plain mathematics of tables: lists of routes (Net, Len, Hop). It imports no program. -/
import Derived.Test.YtgdnfglhlpnooaaMa
namespace Go.Proofs.Ytgdnfglhlpnooaa

abbrev Rt := Int × Int × Int
def flat (L : List Rt) : List Int := L.flatMap fun r => [r.1, r.2.1, r.2.2]
theorem flat_cons (r : Rt) (L : List Rt) : flat (r :: L) = r.1 :: r.2.1 :: r.2.2 :: flat L := rfl
theorem flat_len : ∀ L : List Rt, (flat L).length = L.length * 3
  | [] => rfl
  | r :: L => by rw [flat_cons]; simp only [List.length_cons, flat_len L]; omega
theorem flat_app (L M : List Rt) : flat (L ++ M) = flat L ++ flat M := by simp [flat]
theorem flat_at : ∀ (L : List Rt) (i : Nat) (r : Rt), L[i]? = some r → (flat L)[i * 3]? = some r.1 ∧ (flat L)[i * 3 + 1]? = some r.2.1 ∧ (flat L)[i * 3 + 2]? = some r.2.2
  | [], i, r, h => by simp at h
  | q :: L, 0, r, h => by
    simp only [List.getElem?_cons_zero, Option.some.injEq] at h
    subst h
    exact ⟨rfl, rfl, rfl⟩
  | q :: L, i + 1, r, h => by
    have := flat_at L i r (by simpa using h)
    rw [flat_cons, show (i + 1) * 3 = i * 3 + 1 + 1 + 1 by omega]
    simpa using this
/-- The routes that a function of integers spells. -/
def rts (Z : Nat → Int) (n : Nat) : List Rt := (List.range n).map fun i => (Z (i * 3), Z (i * 3 + 1), Z (i * 3 + 2))
theorem rts_len (Z : Nat → Int) (n : Nat) : (rts Z n).length = n := by simp [rts]
theorem flat_rts (Z : Nat → Int) : ∀ n, flat (rts Z n) = (List.range (n * 3)).map Z
  | 0 => rfl
  | n + 1 => by
    have h : rts Z (n + 1) = rts Z n ++ [(Z (n * 3), Z (n * 3 + 1), Z (n * 3 + 2))] := by simp [rts, List.range_succ]
    rw [h, flat_app, flat_rts Z n, show (n + 1) * 3 = n * 3 + 1 + 1 + 1 by omega]
    simp only [List.range_succ, List.map_append, List.map_cons, List.map_nil, List.append_assoc]
    rfl

def rok (r : Rt) : Bool := pokB r.1 r.2.1 && inB r.2.2 0 999
def ahP (a b c d : Int) : Bool := decide (a < c) || (decide (a = c) && decide (b < d))
def ahd (p q : Rt) : Bool := ahP p.1 p.2.1 q.1 q.2.1
def rt0 : Rt := (0, 0, 0)
/-- Whether route i of the list is valid and stands behind the one before it. -/
def chk (L : List Rt) (i : Nat) : Bool := rok (L.getD i rt0) && (i == 0 || ahd (L.getD (i - 1) rt0) (L.getD i rt0))
/-- Whether the table is valid. -/
def tok (L : List Rt) : Bool := decide (L.length ≤ 120) && (List.range L.length).all (chk L)
theorem tok_big {L : List Rt} (h : 120 < L.length) : tok L = false := by unfold tok; rw [decide_eq_false (by omega), Bool.false_and]
theorem tok_no {L : List Rt} {i : Nat} (h : i < L.length) (hc : chk L i = false) : tok L = false := by
  unfold tok
  rw [Bool.and_eq_false_iff]
  right
  rw [List.all_eq_false]
  exact ⟨i, List.mem_range.2 h, by rw [hc]; simp⟩
theorem tok_yes {L : List Rt} (h : L.length ≤ 120) (hc : ∀ i, i < L.length → chk L i = true) : tok L = true := by
  unfold tok
  rw [decide_eq_true h, Bool.true_and, List.all_eq_true]
  exact fun i hi => hc i (List.mem_range.1 hi)
theorem chk_at {L : List Rt} {i : Nat} {r : Rt} (h : L[i]? = some r) : chk L i = (rok r && (i == 0 || ahd (L.getD (i - 1) rt0) r)) := by
  unfold chk
  rw [List.getD_eq_getElem?_getD, h]
  rfl
theorem chk_prev {L : List Rt} {i : Nat} {p r : Rt} (h : L[i + 1]? = some r) (h' : L[i]? = some p) : chk L (i + 1) = (rok r && ahd p r) := by
  rw [chk_at h, show i + 1 - 1 = i by omega, List.getD_eq_getElem?_getD, h']
  simp

end Go.Proofs.Ytgdnfglhlpnooaa
