/- Plain mathematics of Install. -/
import Derived.Test.YtfpafjdakipccaaMe
import Derived.Test.YtfpafjdakipccaaY7
namespace Go.Proofs.Ytfpafjdakipccaa
open Go.RowKit
def newL (l old : Ls) : Int := newN l.o l.s l.g old.o old.s old.g l.K l.T old.K old.T
theorem sgn_three (x : Int) : sgn x = 1 ∨ sgn x = 0 ∨ sgn x = -1 := by unfold sgn; split <;> (try split) <;> omega
theorem newL_three {l old : Ls} (h1 : l.ok = true) (h2 : old.ok = true) (ho : l.o = old.o) : newL l old = 1 ∨ newL l old = 0 ∨ newL l old = -1 := by
  unfold newL
  have h2' : lokB l.o old.s old.g old.K old.T = true := by rw [ho]; exact h2
  rw [<- ho, newN_yes h1 h2']
  split
  · exact sgn_three _
  · split
    · exact sgn_three _
    · unfold ageN
      split
      · exact .inr (.inl rfl)
      · split
        · exact sgn_three _
        · split
          · exact sgn_three _
          · exact .inr (.inl rfl)
def codeF (f : Option Ls) (l : Ls) : Int :=
  match f with
  | none => if l.g = 60 then 1 else 0
  | some old => if newL l old = 1 then 0 else if newL l old = 0 then 1 else 2
def icode (D : List Ls) (l : Ls) : Int := if dokB D = true /\ l.ok = true then codeF (dfind D l.o) l else 3
def istep (l : Ls) (a : List Ls × Bool) (p : Ls) : List Ls × Bool :=
  let a1 := if a.2 = false /\ l.o <= p.o then (a.1 ++ [l], true) else a
  if p.o = l.o then a1 else (a1.1 ++ [p], a1.2)
def iloop (l : Ls) (D : List Ls) : List Ls × Bool := D.foldl (istep l) ([], false)
theorem iloop_snoc {l : Ls} {D : List Ls} {k : Nat} {p : Ls} (h : D[k]? = some p) : iloop l (D.take (k + 1)) = istep l (iloop l (D.take k)) p := by
  rw [take_snocD h]; unfold iloop; rw [List.foldl_append]; rfl
def dput (D : List Ls) (l : Ls) : List Ls := if (iloop l D).2 = true then (iloop l D).1 else (iloop l D).1 ++ [l]
def inst (D : List Ls) (l : Ls) : List Ls := if icode D l = 0 then dput D l else D
def Srt (D : List Ls) : Prop := D.Pairwise fun a b => a.o < b.o
theorem dokB_srt {D : List Ls} (h : dokB D = true) : Srt D := by
  unfold Srt
  rw [List.pairwise_iff_getElem]
  intro i j hi hj hij
  exact dokB_lt h j i _ _ hij (List.getElem?_eq_getElem hi) (List.getElem?_eq_getElem hj)
theorem dokB_mem {D : List Ls} (h : dokB D = true) {l : Ls} (hl : l ∈ D) : l.ok = true := by
  obtain ⟨i, hi⟩ := List.mem_iff_getElem?.1 hl
  exact (dokB_get h hi).1
theorem srt_dokB {D : List Ls} (h : Srt D) (hk : ∀ l ∈ D, l.ok = true) : dokB D = true := by
  refine dokB_yes fun i hi => ?_
  have hp : D[i]? = some (D[i]'hi) := List.getElem?_eq_getElem _
  have ho := hk _ (List.mem_of_getElem? hp)
  rcases i with _ | i
  · rw [dchk_at hp, ho]; rfl
  · have hq : D[i]? = some (D[i]'(by omega)) := List.getElem?_eq_getElem _
    rw [dchk_prev hp hq, ho, decide_eq_true (List.pairwise_iff_getElem.1 h i (i + 1) (by omega) hi (by omega))]
    rfl
theorem filt_all {D : List Ls} {p : Ls -> Bool} (h : ∀ x ∈ D, p x = true) : D.filter p = D := List.filter_eq_self.2 h
theorem filt_none {D : List Ls} {p : Ls -> Bool} (h : ∀ x ∈ D, p x = false) : D.filter p = [] := List.filter_eq_nil_iff.2 fun x hx => by rw [h x hx]; simp
theorem rev_ind {P : List Ls -> Prop} (h0 : P []) (h1 : ∀ D p, P D -> P (D ++ [p])) (D : List Ls) : P D := by
  rw [<- List.reverse_reverse D]
  induction D.reverse with
  | nil => exact h0
  | cons a L ih => rw [List.reverse_cons]; exact h1 _ _ ih
theorem iloop_inv (l : Ls) (D : List Ls) : Srt D ->
    ((iloop l D).2 = false /\ (iloop l D).1 = D /\ ∀ x ∈ D, x.o < l.o) ∨ ((iloop l D).2 = true /\ (iloop l D).1 = D.filter (fun x => decide (x.o < l.o)) ++ l :: D.filter (fun x => decide (l.o < x.o)) /\ ∃ x ∈ D, l.o <= x.o) := by
  induction D using rev_ind with
  | h0 => intro _; exact .inl ⟨rfl, rfl, fun x hx => by simp at hx⟩
  | h1 D p ih =>
    intro hs
    unfold Srt at hs
    rw [List.pairwise_append] at hs
    obtain ⟨s1, _, s3⟩ := hs
    have hlt : ∀ x ∈ D, x.o < p.o := fun x hx => s3 x hx p (by simp)
    have e : iloop l (D ++ [p]) = istep l (iloop l D) p := by unfold iloop; rw [List.foldl_append]; rfl
    have ih := ih s1
    rw [e]
    generalize iloop l D = r at ih ⊢
    obtain ⟨A, c⟩ := r
    try simp only at ih
    unfold istep
    rcases ih with ⟨rfl, rfl, h3⟩ | ⟨rfl, rfl, x0, hx0, hx1⟩
    · by_cases q1 : l.o <= p.o
      · right
        have f1 : A.filter (fun x => decide (x.o < l.o)) = A := filt_all fun x hx => decide_eq_true (h3 x hx)
        have f2 : A.filter (fun x => decide (l.o < x.o)) = [] := filt_none fun x hx => decide_eq_false (by have := h3 x hx; omega)
        by_cases q2 : p.o = l.o
        · rw [if_pos q2, if_pos ⟨rfl, q1⟩]
          refine ⟨rfl, ?_, p, by simp, by omega⟩
          show A ++ [l] = _
          rw [List.filter_append, List.filter_append, f1, f2]
          simp [q2]
        · simp only [q1, q2, and_self, if_true, if_false]
          refine ⟨trivial, ?_, p, by simp, q1⟩
          rw [List.filter_append, List.filter_append, f1, f2]
          have a1 : ¬ p.o < l.o := by omega
          have a2 : l.o < p.o := by omega
          simp [a1, a2]
      · left
        have q2 : ¬ p.o = l.o := by omega
        simp only [q1, q2, and_false, if_false]
        refine ⟨trivial, trivial, fun x hx => ?_⟩
        rw [List.mem_append, List.mem_singleton] at hx
        rcases hx with hx | rfl
        · exact h3 x hx
        · omega
    · right
      have hlp : l.o < p.o := by have := hlt x0 hx0; omega
      have hne : ¬ p.o = l.o := by omega
      have a1 : ¬ p.o < l.o := by omega
      simp only [hne, if_false, reduceCtorEq, false_and]
      refine ⟨trivial, ?_, x0, by simp [hx0], hx1⟩
      rw [List.filter_append, List.filter_append]
      simp [a1, hlp]
theorem dput_eq {D : List Ls} (h : Srt D) (l : Ls) : dput D l = D.filter (fun x => decide (x.o < l.o)) ++ l :: D.filter (fun x => decide (l.o < x.o)) := by
  unfold dput
  rcases iloop_inv l D h with ⟨h1, h2, h3⟩ | ⟨h1, h2, _⟩
  · rw [if_neg (by rw [h1]; decide), h2, filt_all (fun x hx => decide_eq_true (h3 x hx)), filt_none (fun x hx => decide_eq_false (by have := h3 x hx; omega))]
  · rw [if_pos h1, h2]
theorem dput_mem {D : List Ls} (h : Srt D) {l x : Ls} : x ∈ dput D l ↔ x = l ∨ (x ∈ D /\ x.o ≠ l.o) := by
  rw [dput_eq h, List.mem_append, List.mem_cons, List.mem_filter, List.mem_filter, decide_eq_true_iff, decide_eq_true_iff]
  constructor
  · rintro (⟨h1, h2⟩ | rfl | ⟨h1, h2⟩)
    · exact .inr ⟨h1, by omega⟩
    · exact .inl rfl
    · exact .inr ⟨h1, by omega⟩
  · rintro (rfl | ⟨h1, h2⟩)
    · exact .inr (.inl rfl)
    · rcases Int.lt_or_gt_of_ne h2 with q | q
      · exact .inl ⟨h1, q⟩
      · exact .inr (.inr ⟨h1, q⟩)
theorem dput_srt {D : List Ls} (h : Srt D) (l : Ls) : Srt (dput D l) := by
  rw [dput_eq h]
  unfold Srt at h ⊢
  rw [List.pairwise_append]
  refine ⟨h.sublist List.filter_sublist, ?_, fun a ha b hb => ?_⟩
  · rw [List.pairwise_cons]
    exact ⟨fun a ha => by rw [List.mem_filter, decide_eq_true_iff] at ha; exact ha.2, h.sublist List.filter_sublist⟩
  · rw [List.mem_filter, decide_eq_true_iff] at ha
    rw [List.mem_cons, List.mem_filter, decide_eq_true_iff] at hb
    rcases hb with rfl | hb
    · exact ha.2
    · omega
theorem dput_ok {D : List Ls} (h : dokB D = true) {l : Ls} (hl : l.ok = true) : dokB (dput D l) = true :=
  srt_dokB (dput_srt (dokB_srt h) l) fun x hx => by
    rcases (dput_mem (dokB_srt h)).1 hx with rfl | ⟨h1, _⟩
    · exact hl
    · exact dokB_mem h h1
theorem dfind_mem {D : List Ls} (h : dokB D = true) {x : Int} {l : Ls} : dfind D x = some l ↔ l ∈ D /\ l.o = x := by
  constructor
  · intro h1
    obtain ⟨h2, i, hi⟩ := dfind_some h1
    exact ⟨List.mem_of_getElem? hi, h2⟩
  · rintro ⟨h1, rfl⟩
    obtain ⟨i, hi⟩ := List.mem_iff_getElem?.1 h1
    exact dfind_at h hi
theorem dfind_put {D : List Ls} (h : dokB D = true) {l : Ls} (hl : l.ok = true) : dfind (dput D l) = putF (dfind D) l := by
  funext x
  have h2 := dput_ok h hl
  unfold putF
  by_cases e : x = l.o
  · rw [if_pos e]
    exact (dfind_mem h2).2 ⟨(dput_mem (dokB_srt h)).2 (.inl rfl), e.symm⟩
  · rw [if_neg e]
    cases hd : dfind D x with
    | some m =>
      obtain ⟨h3, h4⟩ := (dfind_mem h).1 hd
      exact (dfind_mem h2).2 ⟨(dput_mem (dokB_srt h)).2 (.inr ⟨h3, by omega⟩), h4⟩
    | none =>
      cases hd2 : dfind (dput D l) x with
      | none => rfl
      | some m =>
        obtain ⟨h3, h4⟩ := (dfind_mem h2).1 hd2
        rcases (dput_mem (dokB_srt h)).1 h3 with rfl | ⟨h5, _⟩
        · exact absurd h4.symm e
        · rw [(dfind_mem h).2 ⟨h5, h4⟩] at hd; cases hd
theorem inst_ok {D : List Ls} (h : dokB D = true) (l : Ls) : dokB (inst D l) = true := by
  unfold inst
  split
  · rename_i hc
    refine dput_ok h ?_
    unfold icode at hc
    split at hc
    · rename_i h2; exact h2.2
    · omega
  · exact h
theorem iloop_len (l : Ls) (D : List Ls) : (iloop l D).1.length <= D.length + if (iloop l D).2 = true then 1 else 0 := by
  unfold iloop
  suffices ∀ (D : List Ls) (a : List Ls × Bool) (n : Nat), (a.1.length <= n + if a.2 = true then 1 else 0) -> (D.foldl (istep l) a).1.length <= n + D.length + if (D.foldl (istep l) a).2 = true then 1 else 0 by
    have h := this D ([], false) 0 (by simp)
    rw [Nat.zero_add] at h
    exact h
  intro D
  induction D with
  | nil => intro a n h; rw [List.length_nil, Nat.add_zero]; exact h
  | cons p D ih =>
    intro a n h
    have h2 : (istep l a p).1.length <= (n + 1) + if (istep l a p).2 = true then 1 else 0 := by
      obtain ⟨A, c⟩ := a
      unfold istep
      cases c <;> by_cases q1 : l.o <= p.o <;> by_cases q2 : p.o = l.o <;> simp [q1, q2] at h ⊢ <;> omega
    have := ih (istep l a p) (n + 1) h2
    rw [List.foldl_cons, List.length_cons]
    omega
end Go.Proofs.Ytfpafjdakipccaa
