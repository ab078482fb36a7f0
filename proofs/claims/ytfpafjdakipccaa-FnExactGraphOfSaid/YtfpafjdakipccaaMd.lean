/- Plain mathematics of databases. -/
import Derived.Test.YtfpafjdakipccaaMl
import Derived.Test.YtfpafjdakipccaaX9
namespace Go.Proofs.Ytfpafjdakipccaa
open Go.RowKit
structure Ls where
  o : Int
  s : Int
  g : Int
  K : List Lk
  T : List Ed
def Ls.ok (l : Ls) : Bool := lokB l.o l.s l.g l.K l.T
def Ls.sum (l : Ls) : Int := lsum l.o l.s l.g l.K l.T
def Ls.tot (l : Ls) : Nat := l.K.length + l.T.length
def l0 : Ls := ⟨0, 0, 0, [], []⟩
def dtot : List Ls -> Nat
  | [] => 0
  | l :: D => 1 + l.tot + dtot D
def ltot : List Ls -> Nat
  | [] => 0
  | l :: D => l.tot + ltot D
theorem ltot_app : ∀ A B : List Ls, ltot (A ++ B) = ltot A + ltot B
  | [], B => by simp [ltot]
  | l :: A, B => by show l.tot + ltot (A ++ B) = l.tot + ltot A + ltot B; rw [ltot_app A B]; omega
theorem dtot_eq : ∀ D : List Ls, dtot D = D.length + ltot D
  | [] => rfl
  | l :: D => by show 1 + l.tot + dtot D = (D.length + 1) + (l.tot + ltot D); rw [dtot_eq D]; omega
theorem take_snocD {D : List Ls} {k : Nat} {p : Ls} (h : D[k]? = some p) : D.take (k + 1) = D.take k ++ [p] := by
  rw [List.take_add_one, h]; rfl
theorem ltot_snoc {D : List Ls} {k : Nat} {p : Ls} (h : D[k]? = some p) : ltot (D.take (k + 1)) = ltot (D.take k) + p.tot := by
  rw [take_snocD h, ltot_app]; simp [ltot]
theorem ltot_take_le : ∀ (D : List Ls) (k : Nat), ltot (D.take k) <= ltot D
  | [], k => by simp
  | l :: D, 0 => by simp [ltot]
  | l :: D, k + 1 => by show l.tot + ltot (D.take k) <= l.tot + ltot D; have := ltot_take_le D k; omega
theorem ltot_at_le {D : List Ls} {k : Nat} {p : Ls} (h : D[k]? = some p) : ltot (D.take k) + p.tot <= ltot D := by
  rw [<- ltot_snoc h]; exact ltot_take_le _ _
def dchk (D : List Ls) (i : Nat) : Bool := (D.getD i l0).ok && (i == 0 || decide ((D.getD (i - 1) l0).o < (D.getD i l0).o))
def dokB (D : List Ls) : Bool := (List.range D.length).all (dchk D)
theorem dokB_no {D : List Ls} {i : Nat} (h : i < D.length) (hc : dchk D i = false) : dokB D = false := by
  unfold dokB
  rw [List.all_eq_false]
  exact ⟨i, List.mem_range.2 h, by rw [hc]; simp⟩
theorem dokB_yes {D : List Ls} (hc : ∀ i, i < D.length -> dchk D i = true) : dokB D = true := by
  unfold dokB
  rw [List.all_eq_true]
  exact fun i hi => hc i (List.mem_range.1 hi)
theorem dokB_at {D : List Ls} (h : dokB D = true) {i : Nat} (hi : i < D.length) : dchk D i = true := by
  unfold dokB at h
  rw [List.all_eq_true] at h
  exact h i (List.mem_range.2 hi)
theorem dchk_at {D : List Ls} {i : Nat} {r : Ls} (h : D[i]? = some r) : dchk D i = (r.ok && (i == 0 || decide ((D.getD (i - 1) l0).o < r.o))) := by
  unfold dchk
  rw [List.getD_eq_getElem?_getD, h]
  rfl
theorem dchk_prev {D : List Ls} {i : Nat} {p r : Ls} (h : D[i + 1]? = some r) (h' : D[i]? = some p) : dchk D (i + 1) = (r.ok && decide (p.o < r.o)) := by
  rw [dchk_at h, show i + 1 - 1 = i by omega, List.getD_eq_getElem?_getD, h']
  simp
theorem Ls.ok_bd {l : Ls} (h : l.ok = true) : 0 <= l.o /\ l.o <= 9 /\ 1 <= l.s /\ l.s <= 1000000 /\ 0 <= l.g /\ l.g <= 60 /\ l.K.length <= 10 /\ l.T.length <= 6 := lok_bd h
theorem dchk_get {D : List Ls} {n i : Nat} {r : Ls} (h : ∀ j, j < n -> dchk D j = true) (hn : i < n) (hi : D[i]? = some r) : r.ok = true /\ (i : Int) <= r.o := by
  induction i generalizing r with
  | zero =>
    have := h 0 hn
    rw [dchk_at hi, Bool.and_eq_true] at this
    have h2 := Ls.ok_bd this.1
    exact ⟨this.1, by omega⟩
  | succ i ih =>
    have hl := (List.getElem?_eq_some_iff.1 hi).1
    have := h (i + 1) hn
    have hp : D[i]? = some (D[i]'(by omega)) := List.getElem?_eq_getElem _
    rw [dchk_prev hi hp, Bool.and_eq_true, decide_eq_true_iff] at this
    have h3 := ih (by omega) hp
    exact ⟨this.1, by omega⟩
theorem dokB_get {D : List Ls} (h : dokB D = true) {i : Nat} {r : Ls} (hi : D[i]? = some r) : r.ok = true /\ (i : Int) <= r.o :=
  dchk_get (n := D.length) (fun _ hj => dokB_at h hj) (List.getElem?_eq_some_iff.1 hi).1 hi
theorem dchk_len {D : List Ls} {n : Nat} (hn : n <= D.length) (h : ∀ j, j < n -> dchk D j = true) : n <= 10 := by
  rcases Nat.eq_zero_or_pos n with e | e
  · omega
  · have hp : D[n - 1]? = some (D[n - 1]'(by omega)) := List.getElem?_eq_getElem _
    have h1 := dchk_get h (by omega) hp
    have h2 := Ls.ok_bd h1.1
    omega
theorem dokB_len {D : List Ls} (h : dokB D = true) : D.length <= 10 := dchk_len (Nat.le_refl _) (fun _ hj => dokB_at h hj)
theorem dokB_big {D : List Ls} (h : 10 < D.length) : dokB D = false := by
  cases e : dokB D
  · rfl
  · have := dokB_len e; omega
def dsum1 (h : Int) (l : Ls) : Int := (31 * h + l.sum) % 1000003
def dsums (D : List Ls) : Int := D.foldl dsum1 1
def dsumB (D : List Ls) : Int := if dokB D = true then dsums D else -1
end Go.Proofs.Ytfpafjdakipccaa
