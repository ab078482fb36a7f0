/- Plain mathematics of advertisements: links and stubs; which are valid. -/
import Derived.WalkKit
namespace Go.Proofs.Ytfpafjdakipccaa
open Go.RowKit
abbrev Ed := Int × Int × Int
def flat (L : List Ed) : List Int := L.flatMap fun r => [r.1, r.2.1, r.2.2]
theorem flat_cons (r : Ed) (L : List Ed) : flat (r :: L) = r.1 :: r.2.1 :: r.2.2 :: flat L := rfl
theorem flat_len : ∀ L : List Ed, (flat L).length = L.length * 3
  | [] => rfl
  | r :: L => by rw [flat_cons]; simp only [List.length_cons, flat_len L]; omega
theorem flat_app (L M : List Ed) : flat (L ++ M) = flat L ++ flat M := by simp [flat]
theorem flat_at : ∀ (L : List Ed) (i : Nat) (r : Ed), L[i]? = some r -> (flat L)[i * 3]? = some r.1 /\ (flat L)[i * 3 + 1]? = some r.2.1 /\ (flat L)[i * 3 + 2]? = some r.2.2
  | [], i, r, h => by simp at h
  | q :: L, 0, r, h => by
    simp only [List.getElem?_cons_zero, Option.some.injEq] at h
    subst h
    exact ⟨rfl, rfl, rfl⟩
  | q :: L, i + 1, r, h => by
    have := flat_at L i r (by simpa using h)
    rw [flat_cons, show (i + 1) * 3 = i * 3 + 1 + 1 + 1 by omega]
    simpa using this
def eds (Z : Nat -> Int) (n : Nat) : List Ed := (List.range n).map fun i => (Z (i * 3), Z (i * 3 + 1), Z (i * 3 + 2))
theorem eds_len (Z : Nat -> Int) (n : Nat) : (eds Z n).length = n := by simp [eds]
theorem flat_eds (Z : Nat -> Int) : ∀ n, flat (eds Z n) = (List.range (n * 3)).map Z
  | 0 => rfl
  | n + 1 => by
    have h : eds Z (n + 1) = eds Z n ++ [(Z (n * 3), Z (n * 3 + 1), Z (n * 3 + 2))] := by simp [eds, List.range_succ]
    rw [h, flat_app, flat_eds Z n, show (n + 1) * 3 = n * 3 + 1 + 1 + 1 by omega]
    simp only [List.range_succ, List.map_append, List.map_cons, List.map_nil, List.append_assoc]
    rfl
theorem take_snoc3 {L : List Ed} {k : Nat} {p : Ed} (h : L[k]? = some p) : L.take (k + 1) = L.take k ++ [p] := by
  rw [List.take_add_one, h]; rfl
def inB (x a b : Int) : Bool := decide (a <= x) && decide (x <= b)
theorem inB_true {x a b : Int} (h1 : a <= x) (h2 : x <= b) : inB x a b = true := by unfold inB; rw [decide_eq_true h1, decide_eq_true h2]; rfl
theorem inB_false {x a b : Int} (h : x < a ∨ b < x) : inB x a b = false := by
  unfold inB
  rcases h with h | h
  · rw [decide_eq_false (by omega : ¬ a <= x), Bool.false_and]
  · rw [decide_eq_false (by omega : ¬ x <= b), Bool.and_false]
theorem inB_iff {x a b : Int} : inB x a b = true ↔ a <= x /\ x <= b := by unfold inB; rw [Bool.and_eq_true, decide_eq_true_iff, decide_eq_true_iff]
def eahB (a b c d : Int) : Bool := decide (a < c) || (decide (a = c) && decide (b < d))
def psz (n : Int) : Int := 2 ^ (16 - n).toNat
theorem psz_cases (n : Int) (h0 : 0 <= n) (h1 : n <= 16) : 
    (n = 0 /\ psz n = 65536) ∨ (n = 1 /\ psz n = 32768) ∨ (n = 2 /\ psz n = 16384) ∨ (n = 3 /\ psz n = 8192) ∨ (n = 4 /\ psz n = 4096) ∨ (n = 5 /\ psz n = 2048) ∨ (n = 6 /\ psz n = 1024) ∨ (n = 7 /\ psz n = 512) ∨ (n = 8 /\ psz n = 256) ∨ (n = 9 /\ psz n = 128) ∨ (n = 10 /\ psz n = 64) ∨ (n = 11 /\ psz n = 32) ∨ (n = 12 /\ psz n = 16) ∨ (n = 13 /\ psz n = 8) ∨ (n = 14 /\ psz n = 4) ∨ (n = 15 /\ psz n = 2) ∨ (n = 16 /\ psz n = 1) := by
  have h : n = 0 ∨ n = 1 ∨ n = 2 ∨ n = 3 ∨ n = 4 ∨ n = 5 ∨ n = 6 ∨ n = 7 ∨ n = 8 ∨ n = 9 ∨ n = 10 ∨ n = 11 ∨ n = 12 ∨ n = 13 ∨ n = 14 ∨ n = 15 ∨ n = 16 := by omega
  rcases h with rfl | rfl | rfl | rfl | rfl | rfl | rfl | rfl | rfl | rfl | rfl | rfl | rfl | rfl | rfl | rfl | rfl <;> decide
theorem psz_pos (n : Int) (h0 : 0 <= n) (h1 : n <= 16) : 1 <= psz n := by have := psz_cases n h0 h1; omega
theorem psz_le (n : Int) (h0 : 0 <= n) (h1 : n <= 16) : psz n <= 65536 := by have := psz_cases n h0 h1; omega
def pokB (net n : Int) : Bool := inB n 0 16 && inB net 0 65535 && (net % psz n == 0)
theorem pokB_true {net n : Int} (h : pokB net n = true) : 0 <= n /\ n <= 16 /\ 0 <= net /\ net <= 65535 /\ net % psz n = 0 := by
  unfold pokB at h
  simp only [Bool.and_eq_true, beq_iff_eq, inB_iff] at h
  omega
def e0 : Ed := (0, 0, 0)
abbrev Lk := Int × Int
def flat2 (L : List Lk) : List Int := L.flatMap fun r => [r.1, r.2]
theorem flat2_cons (r : Lk) (L : List Lk) : flat2 (r :: L) = r.1 :: r.2 :: flat2 L := rfl
theorem flat2_len : ∀ L : List Lk, (flat2 L).length = L.length * 2
  | [] => rfl
  | r :: L => by rw [flat2_cons]; simp only [List.length_cons, flat2_len L]; omega
theorem flat2_app (L M : List Lk) : flat2 (L ++ M) = flat2 L ++ flat2 M := by simp [flat2]
theorem flat2_at : ∀ (L : List Lk) (i : Nat) (r : Lk), L[i]? = some r -> (flat2 L)[i * 2]? = some r.1 /\ (flat2 L)[i * 2 + 1]? = some r.2
  | [], i, r, h => by simp at h
  | q :: L, 0, r, h => by
    simp only [List.getElem?_cons_zero, Option.some.injEq] at h
    subst h
    exact ⟨rfl, rfl⟩
  | q :: L, i + 1, r, h => by
    have := flat2_at L i r (by simpa using h)
    rw [flat2_cons, show (i + 1) * 2 = i * 2 + 1 + 1 by omega]
    simpa using this
def lks (Z : Nat -> Int) (n : Nat) : List Lk := (List.range n).map fun i => (Z (i * 2), Z (i * 2 + 1))
theorem lks_len (Z : Nat -> Int) (n : Nat) : (lks Z n).length = n := by simp [lks]
theorem flat2_lks (Z : Nat -> Int) : ∀ n, flat2 (lks Z n) = (List.range (n * 2)).map Z
  | 0 => rfl
  | n + 1 => by
    have h : lks Z (n + 1) = lks Z n ++ [(Z (n * 2), Z (n * 2 + 1))] := by simp [lks, List.range_succ]
    rw [h, flat2_app, flat2_lks Z n, show (n + 1) * 2 = n * 2 + 1 + 1 by omega]
    simp only [List.range_succ, List.map_append, List.map_cons, List.map_nil, List.append_assoc]
    rfl
theorem take_snoc2 {L : List Lk} {k : Nat} {p : Lk} (h : L[k]? = some p) : L.take (k + 1) = L.take k ++ [p] := by
  rw [List.take_add_one, h]; rfl
def lkB (o a c : Int) : Bool := inB a 0 9 && !(a == o) && inB c 1 1000
def k0 : Lk := (0, 0)
def lchk (o : Int) (L : List Lk) (i : Nat) : Bool := lkB o (L.getD i k0).1 (L.getD i k0).2 && (i == 0 || decide ((L.getD (i - 1) k0).1 < (L.getD i k0).1))
def lksB (o : Int) (L : List Lk) : Bool := (List.range L.length).all (lchk o L)
theorem lksB_no {o : Int} {L : List Lk} {i : Nat} (h : i < L.length) (hc : lchk o L i = false) : lksB o L = false := by
  unfold lksB
  rw [List.all_eq_false]
  exact ⟨i, List.mem_range.2 h, by rw [hc]; simp⟩
theorem lksB_yes {o : Int} {L : List Lk} (hc : ∀ i, i < L.length -> lchk o L i = true) : lksB o L = true := by
  unfold lksB
  rw [List.all_eq_true]
  exact fun i hi => hc i (List.mem_range.1 hi)
theorem lksB_at {o : Int} {L : List Lk} (h : lksB o L = true) {i : Nat} (hi : i < L.length) : lchk o L i = true := by
  unfold lksB at h
  rw [List.all_eq_true] at h
  exact h i (List.mem_range.2 hi)
theorem lchk_at {o : Int} {L : List Lk} {i : Nat} {r : Lk} (h : L[i]? = some r) : lchk o L i = (lkB o r.1 r.2 && (i == 0 || decide ((L.getD (i - 1) k0).1 < r.1))) := by
  unfold lchk
  rw [List.getD_eq_getElem?_getD, h]
  rfl
theorem lchk_prev {o : Int} {L : List Lk} {i : Nat} {p r : Lk} (h : L[i + 1]? = some r) (h' : L[i]? = some p) : lchk o L (i + 1) = (lkB o r.1 r.2 && decide (p.1 < r.1)) := by
  rw [lchk_at h, show i + 1 - 1 = i by omega, List.getD_eq_getElem?_getD, h']
  simp
theorem lksB_get {o : Int} {L : List Lk} (h : lksB o L = true) {i : Nat} {r : Lk} (hi : L[i]? = some r) : 0 <= r.1 /\ r.1 <= 9 /\ 1 <= r.2 /\ r.2 <= 1000 /\ (i : Int) <= r.1 := by
  induction i generalizing r with
  | zero =>
    have := lksB_at h (List.getElem?_eq_some_iff.1 hi).1
    rw [lchk_at hi, Bool.and_eq_true] at this
    have h2 := this.1
    unfold lkB at h2
    rw [Bool.and_eq_true, Bool.and_eq_true, inB_iff, inB_iff] at h2
    omega
  | succ i ih =>
    have hl := (List.getElem?_eq_some_iff.1 hi).1
    have := lksB_at h hl
    have hp : L[i]? = some (L[i]'(by omega)) := List.getElem?_eq_getElem _
    rw [lchk_prev hi hp, Bool.and_eq_true, decide_eq_true_iff] at this
    have h2 := this.1
    have h3 := ih hp
    unfold lkB at h2
    rw [Bool.and_eq_true, Bool.and_eq_true, inB_iff, inB_iff] at h2
    omega
theorem lksB_len {o : Int} {L : List Lk} (h : lksB o L = true) : L.length <= 10 := by
  rcases Nat.eq_zero_or_pos L.length with e | e
  · omega
  · have hp : L[L.length - 1]? = some (L[L.length - 1]'(by omega)) := List.getElem?_eq_getElem _
    have := lksB_get h hp
    omega
def stB (a b c : Int) : Bool := pokB a b && inB c 1 1000
def schk (L : List Ed) (i : Nat) : Bool := stB (L.getD i e0).1 (L.getD i e0).2.1 (L.getD i e0).2.2 && (i == 0 || eahB (L.getD (i - 1) e0).1 (L.getD (i - 1) e0).2.1 (L.getD i e0).1 (L.getD i e0).2.1)
def stsB (L : List Ed) : Bool := decide (L.length <= 6) && (List.range L.length).all (schk L)
theorem stsB_big {L : List Ed} (h : 6 < L.length) : stsB L = false := by unfold stsB; rw [decide_eq_false (by omega), Bool.false_and]
theorem stsB_no {L : List Ed} {i : Nat} (h : i < L.length) (hc : schk L i = false) : stsB L = false := by
  unfold stsB
  rw [Bool.and_eq_false_iff]
  right
  rw [List.all_eq_false]
  exact ⟨i, List.mem_range.2 h, by rw [hc]; simp⟩
theorem stsB_yes {L : List Ed} (h : L.length <= 6) (hc : ∀ i, i < L.length -> schk L i = true) : stsB L = true := by
  unfold stsB
  rw [decide_eq_true h, Bool.true_and, List.all_eq_true]
  exact fun i hi => hc i (List.mem_range.1 hi)
theorem stsB_at {L : List Ed} (h : stsB L = true) {i : Nat} (hi : i < L.length) : schk L i = true := by
  unfold stsB at h
  rw [Bool.and_eq_true, List.all_eq_true] at h
  exact h.2 i (List.mem_range.2 hi)
theorem stsB_len {L : List Ed} (h : stsB L = true) : L.length <= 6 := by
  unfold stsB at h
  rw [Bool.and_eq_true, decide_eq_true_iff] at h
  exact h.1
theorem schk_at {L : List Ed} {i : Nat} {r : Ed} (h : L[i]? = some r) : schk L i = (stB r.1 r.2.1 r.2.2 && (i == 0 || eahB (L.getD (i - 1) e0).1 (L.getD (i - 1) e0).2.1 r.1 r.2.1)) := by
  unfold schk
  rw [List.getD_eq_getElem?_getD, h]
  rfl
theorem schk_prev {L : List Ed} {i : Nat} {p r : Ed} (h : L[i + 1]? = some r) (h' : L[i]? = some p) : schk L (i + 1) = (stB r.1 r.2.1 r.2.2 && eahB p.1 p.2.1 r.1 r.2.1) := by
  rw [schk_at h, show i + 1 - 1 = i by omega, List.getD_eq_getElem?_getD, h']
  simp
theorem stsB_get {L : List Ed} (h : stsB L = true) {i : Nat} {r : Ed} (hi : L[i]? = some r) : 0 <= r.1 /\ r.1 <= 65535 /\ 0 <= r.2.1 /\ r.2.1 <= 16 /\ 1 <= r.2.2 /\ r.2.2 <= 1000 := by
  have := stsB_at h (List.getElem?_eq_some_iff.1 hi).1
  rw [schk_at hi, Bool.and_eq_true] at this
  have h2 := this.1
  unfold stB at h2
  rw [Bool.and_eq_true, inB_iff] at h2
  have := pokB_true h2.1
  omega
def lokB (o s g : Int) (K : List Lk) (T : List Ed) : Bool := inB o 0 9 && inB s 1 1000000 && inB g 0 60 && lksB o K && stsB T
end Go.Proofs.Ytfpafjdakipccaa
