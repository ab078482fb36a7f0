/- The graph of a database: plain mathematics. -/
import Derived.Test.YtfpafjdakipccaaMi
namespace Go.Proofs.Ytfpafjdakipccaa
open Go.RowKit


/-- Whether the advertisement of x has a link to y. -/
def says (D : List Ls) (x y : Int) : Bool := match dfind D x with
  | some l => l.K.any fun k => k.1 == y
  | none => false
def gel (D : List Ls) (o : Int) (K : List Lk) : List Ed := (K.filter fun k => says D k.1 o).map fun k => (o, k.1, k.2)
def gpre (D A : List Ls) : List Ed := A.flatMap fun l => gel D l.o l.K
def gout (D : List Ls) : List Ed := gpre D D
theorem take_snocK {K : List Lk} {j : Nat} {r : Lk} (h : K[j]? = some r) : K.take (j + 1) = K.take j ++ [r] := by rw [List.take_add_one, h]; rfl
theorem gel_yes {D : List Ls} {o : Int} {K : List Lk} {j : Nat} {r : Lk} (h : K[j]? = some r) (hs : says D r.1 o = true) : gel D o (K.take (j + 1)) = gel D o (K.take j) ++ [(o, r.1, r.2)] := by
  unfold gel; rw [take_snocK h, List.filter_append, List.map_append]; simp [hs]
theorem gel_no {D : List Ls} {o : Int} {K : List Lk} {j : Nat} {r : Lk} (h : K[j]? = some r) (hs : says D r.1 o = false) : gel D o (K.take (j + 1)) = gel D o (K.take j) := by
  unfold gel; rw [take_snocK h, List.filter_append, List.map_append]; simp [hs]
theorem gpre_snoc {D A : List Ls} {i : Nat} {p : Ls} (h : A[i]? = some p) : gpre D (A.take (i + 1)) = gpre D (A.take i) ++ gel D p.o p.K := by
  unfold gpre; rw [take_snocD h, List.flatMap_append]; simp
theorem gel_len (D : List Ls) (o : Int) (K : List Lk) : (gel D o K).length ≤ K.length := by
  unfold gel; rw [List.length_map]; exact List.length_filter_le _ _
theorem gpre_len (D : List Ls) : ∀ A : List Ls, (∀ l ∈ A, l.K.length ≤ 10) → (gpre D A).length ≤ 10 * A.length
  | [], _ => Nat.le_refl _
  | a :: r, h => by
    have h1 := gpre_len D r (fun l hl => h l (by simp [hl]))
    have h2 := h a (by simp)
    have h3 := gel_len D a.o a.K
    have e : gpre D (a :: r) = gel D a.o a.K ++ gpre D r := by unfold gpre; rw [List.flatMap_cons]
    rw [e, List.length_append, List.length_cons]
    omega
theorem gpre_100 {D : List Ls} (h : dokB D = true) (i : Nat) : (gpre D (D.take i)).length ≤ 100 := by
  have h1 := gpre_len D (D.take i) fun l hl => (Ls.ok_bd (dokB_mem h (List.mem_of_mem_take hl))).2.2.2.2.2.2.1
  have h2 := dokB_len h
  rw [List.length_take] at h1
  omega
theorem lks_get {o : Int} {K : List Lk} (h : lksB o K = true) {i : Nat} {r : Lk} (hi : K[i]? = some r) : 0 ≤ r.1 ∧ r.1 ≤ 9 ∧ r.1 ≠ o ∧ 1 ≤ r.2 ∧ r.2 ≤ 1000 := by
  unfold lksB at h
  rw [List.all_eq_true] at h
  have hl := (List.getElem?_eq_some_iff.1 hi).1
  have h1 := h i (List.mem_range.2 hl)
  unfold lchk at h1
  rw [Bool.and_eq_true] at h1
  have h2 := h1.1
  have e : K.getD i k0 = r := by rw [List.getD_eq_getElem?_getD, hi]; rfl
  rw [e] at h2
  unfold lkB at h2
  simp only [Bool.and_eq_true, Bool.not_eq_true', beq_eq_false_iff_ne] at h2
  obtain ⟨⟨a, b⟩, c⟩ := h2
  have a' : 0 ≤ r.1 ∧ r.1 ≤ 9 := by unfold inB at a; simpa using a
  have c' : 1 ≤ r.2 ∧ r.2 ≤ 1000 := by unfold inB at c; simpa using c
  exact ⟨a'.1, a'.2, b, c'.1, c'.2⟩
theorem lks_next {o : Int} {K : List Lk} (h : lksB o K = true) {i : Nat} {r q : Lk} (hi : K[i]? = some r) (hj : K[i + 1]? = some q) : r.1 < q.1 := by
  unfold lksB at h
  rw [List.all_eq_true] at h
  have hl := (List.getElem?_eq_some_iff.1 hj).1
  have h1 := h (i + 1) (List.mem_range.2 hl)
  unfold lchk at h1
  rw [Bool.and_eq_true] at h1
  have h2 := h1.2
  have e : K.getD i k0 = r := by rw [List.getD_eq_getElem?_getD, hi]; rfl
  have e2 : K.getD (i + 1) k0 = q := by rw [List.getD_eq_getElem?_getD, hj]; rfl
  rw [e2] at h2
  simp at h2
  rw [show (K[i]?.getD k0) = r by rw [hi]; rfl] at h2
  exact h2
theorem lks_srt {o : Int} {K : List Lk} (h : lksB o K = true) : K.Pairwise fun a b => a.1 < b.1 := by
  rw [List.pairwise_iff_getElem]
  intro i j hi hj hij
  have key : ∀ d i : Nat, ∀ hd : i + d + 1 < K.length, (K[i]'(by omega)).1 < (K[i + d + 1]'hd).1 := by
    intro d
    induction d with
    | zero => intro i hd; exact lks_next h (List.getElem?_eq_getElem (by omega)) (List.getElem?_eq_getElem hd)
    | succ d ih =>
      intro i hd
      have h1 := ih i (by omega)
      have h2 := lks_next h (i := i + d + 1) (List.getElem?_eq_getElem (by omega)) (List.getElem?_eq_getElem (show i + d + 1 + 1 < K.length by omega))
      exact Int.lt_trans h1 h2
  have hd : i + (j - i - 1) + 1 = j := by omega
  have := key (j - i - 1) i (by omega)
  simp only [hd] at this
  exact this
/-- The edges of a graph, each valid, in ascending order. -/
def gval (E : List Ed) : Prop := (∀ e ∈ E, 0 ≤ e.1 ∧ e.1 ≤ 9 ∧ 0 ≤ e.2.1 ∧ e.2.1 ≤ 9 ∧ e.1 ≠ e.2.1 ∧ 1 ≤ e.2.2 ∧ e.2.2 ≤ 1000) ∧ E.Pairwise fun a b => a.1 < b.1 ∨ a.1 = b.1 ∧ a.2.1 < b.2.1
theorem Ls.ok_lks {l : Ls} (h : l.ok = true) : 0 ≤ l.o ∧ l.o ≤ 9 ∧ lksB l.o l.K = true := by
  have h1 := Ls.ok_bd h
  unfold Ls.ok lokB at h
  simp only [Bool.and_eq_true] at h
  exact ⟨h1.1, h1.2.1, h.1.2⟩
theorem gel_mem {D : List Ls} {o : Int} {K : List Lk} {e : Ed} (h : e ∈ gel D o K) : ∃ k ∈ K, e = (o, k.1, k.2) := by
  unfold gel at h
  obtain ⟨k, hk, rfl⟩ := List.mem_map.1 h
  exact ⟨k, (List.mem_filter.1 hk).1, rfl⟩
theorem gpre_val (D : List Ls) : ∀ A : List Ls, Srt A → (∀ l ∈ A, l.ok = true) → gval (gpre D A)
  | [], _, _ => ⟨fun e he => by simp [gpre] at he, by simp [gpre]⟩
  | a :: r, hs, hk => by
    obtain ⟨s1, s2⟩ := List.pairwise_cons.1 hs
    obtain ⟨i1, i2⟩ := gpre_val D r s2 (fun l hl => hk l (by simp [hl]))
    obtain ⟨o0, o9, hl⟩ := Ls.ok_lks (hk a (by simp))
    have e : gpre D (a :: r) = gel D a.o a.K ++ gpre D r := by unfold gpre; rw [List.flatMap_cons]
    have hm : ∀ e ∈ gpre D r, ∃ l ∈ r, e.1 = l.o := fun e he => by
      unfold gpre at he
      obtain ⟨l, hl, he⟩ := List.mem_flatMap.1 he
      obtain ⟨k, _, rfl⟩ := gel_mem he
      exact ⟨l, hl, rfl⟩
    rw [e]
    refine ⟨fun e he => ?_, ?_⟩
    · rcases List.mem_append.1 he with he | he
      · obtain ⟨k, hk, rfl⟩ := gel_mem he
        obtain ⟨i, hi⟩ := List.getElem?_of_mem hk
        obtain ⟨q1, q2, q3, q4, q5⟩ := lks_get hl hi
        exact ⟨o0, o9, q1, q2, fun q => q3 q.symm, q4, q5⟩
      · exact i1 e he
    · rw [List.pairwise_append]
      refine ⟨?_, i2, fun x hx y hy => ?_⟩
      · unfold gel
        rw [List.pairwise_map]
        exact ((lks_srt hl).filter _).imp fun h => .inr ⟨rfl, h⟩
      · obtain ⟨k, _, rfl⟩ := gel_mem hx
        obtain ⟨l, hl, q⟩ := hm y hy
        exact .inl (by rw [q]; exact s1 l hl)
theorem gout_val {D : List Ls} (h : dokB D = true) : gval (gout D) := gpre_val D D (dokB_srt h) fun _ hl => dokB_mem h hl
theorem gout_end {D : List Ls} {k : Nat} (h : D.length ≤ k) : gpre D (D.take k) = gout D := by rw [List.take_of_length_le h]; rfl
/-- What GraphOf comes to. -/
def gfO (D : List Ls) : Bool := dokB D && decide ((gout D).length ≤ 60)
def gfN (D : List Ls) : Int := if gfO D = true then 10 else 0
def gfE (D : List Ls) : List Ed := if gfO D = true then gout D else []

end Go.Proofs.Ytfpafjdakipccaa
