/- The mathematics of the safe order: nodes by distance, then by number. -/
import Derived.Test.YtjenjdhoblcohaaMf
namespace Go.Proofs.Ytjenjdhoblcohaa
open Go.RowKit

/-- The place of a node in the order: its distance, then its number. -/
def keyO (D : Int → Int) (x : Int) : Int := D x * 16 + x
def insB (D : Int → Int) : List Int → Int → List Int
  | [], x => [x]
  | y :: l, x => if keyO D x < keyO D y then x :: y :: l else y :: insB D l x
/-- The first k nodes in order. -/
def safeK (D : Int → Int) : Nat → List Int
  | 0 => []
  | k + 1 => insB D (safeK D k) (k : Int)
theorem insB_mem (D : Int → Int) (x y : Int) : ∀ l, y ∈ insB D l x ↔ y = x ∨ y ∈ l
  | [] => by simp [insB]
  | a :: l => by
    unfold insB
    split
    · simp
    · rw [List.mem_cons, insB_mem D x y l, List.mem_cons]
      constructor
      · rintro (h | h | h)
        · exact .inr (.inl h)
        · exact .inl h
        · exact .inr (.inr h)
      · rintro (h | h | h)
        · exact .inr (.inl h)
        · exact .inl h
        · exact .inr (.inr h)
theorem insB_len (D : Int → Int) (x : Int) : ∀ l, (insB D l x).length = l.length + 1
  | [] => rfl
  | a :: l => by
    unfold insB
    split
    · rfl
    · rw [List.length_cons, insB_len D x l, List.length_cons]
theorem safeK_len (D : Int → Int) : ∀ k, (safeK D k).length = k
  | 0 => rfl
  | k + 1 => by unfold safeK; rw [insB_len, safeK_len D k]
theorem safeK_mem (D : Int → Int) : ∀ (k : Nat) (y : Int), y ∈ safeK D k ↔ 0 ≤ y ∧ y < (k : Int)
  | 0, y => by simp [safeK]
  | k + 1, y => by unfold safeK; rw [insB_mem, safeK_mem D k]; omega
theorem insB_sorted (D : Int → Int) (x : Int) : ∀ l, l.Pairwise (fun a b => keyO D a < keyO D b) → (∀ y ∈ l, keyO D y ≠ keyO D x) → (insB D l x).Pairwise (fun a b => keyO D a < keyO D b)
  | [], _, _ => by simp [insB]
  | a :: l, h, hn => by
    obtain ⟨h1, h2⟩ := List.pairwise_cons.1 h
    unfold insB
    split
    · rename_i hlt
      refine List.pairwise_cons.2 ⟨fun y hy => ?_, h⟩
      rcases List.mem_cons.1 hy with rfl | hy
      · exact hlt
      · exact Int.lt_trans hlt (h1 y hy)
    · rename_i hge
      refine List.pairwise_cons.2 ⟨fun y hy => ?_, insB_sorted D x l h2 (fun y hy => hn y (List.mem_cons_of_mem _ hy))⟩
      rcases (insB_mem D x y l).1 hy with rfl | hy
      · have := hn a List.mem_cons_self
        omega
      · exact h1 y hy
theorem keyO_inj {D : Int → Int} {x y : Int} (hx : 0 ≤ x ∧ x < 16) (hy : 0 ≤ y ∧ y < 16) (h : keyO D x = keyO D y) : x = y := by
  unfold keyO at h
  omega
theorem safeK_sorted (D : Int → Int) : ∀ k, k ≤ 16 → (safeK D k).Pairwise (fun a b => keyO D a < keyO D b)
  | 0, _ => List.Pairwise.nil
  | k + 1, hk => by
    unfold safeK
    refine insB_sorted D _ _ (safeK_sorted D k (by omega)) (fun y hy e => ?_)
    have := (safeK_mem D k y).1 hy
    have := keyO_inj (by omega) (by omega) e
    omega
theorem insB_split (D : Int → Int) (x : Int) (B : List Int) (hB : ∀ b, B.head? = some b → keyO D x < keyO D b) : ∀ A, (∀ a ∈ A, keyO D a < keyO D x) → insB D (A ++ B) x = A ++ x :: B
  | [], _ => by
    cases B with
    | nil => rfl
    | cons b B => show (if _ then _ else _) = _; rw [if_pos (hB b rfl)]; rfl
  | a :: A, hA => by
    have h1 := hA a List.mem_cons_self
    show (if _ then _ else _) = _
    rw [if_neg (by omega)]
    show a :: insB D (A ++ B) x = _
    rw [insB_split D x B hB A (fun y hy => hA y (List.mem_cons_of_mem _ hy))]
    rfl
/-- The whole order. -/
def safeL (N : Int) (L : List Ed) (d : Int) : List Int := if gok N L = true ∧ ndB N d = true then safeK (fun x => dsT N L x d) N.toNat else []
theorem safeL_len (N : Int) (L : List Ed) (d : Int) : (safeL N L d).length ≤ 10 := by
  unfold safeL
  split
  · rename_i h
    rw [safeK_len]
    have := gok_parts h.1
    omega
  · simp
/-- All nodes, ascending. -/
def ndK (n : Nat) : List Int := (List.range n).map fun (i : Nat) => (i : Int)
theorem ndK_len (n : Nat) : (ndK n).length = n := by simp [ndK]
theorem ndK_at {n i : Nat} (h : i < n) : (ndK n)[i]? = some (i : Int) := by unfold ndK; rw [List.getElem?_map, List.getElem?_range h]; rfl
theorem ndK_succ (n : Nat) : ndK (n + 1) = ndK n ++ [(n : Int)] := by unfold ndK; rw [List.range_succ, List.map_append]; rfl
theorem ndK_drop {n k : Nat} (h : k < n) : (ndK n).drop k = (k : Int) :: (ndK n).drop (k + 1) := by
  rw [List.drop_eq_getElem_cons (by rw [ndK_len]; exact h)]
  congr 1
  have := ndK_at h
  rw [List.getElem?_eq_getElem (by rw [ndK_len]; exact h)] at this
  exact Option.some.inj this
/-- Within the inner loop: what stands where. -/
structure InS (D : Int → Int) (n k j : Nat) (Z : List Int) : Prop where
  ex : ∃ A B, A ++ B = safeK D k ∧ A.length = j ∧ Z = A ++ (k : Int) :: (B ++ (ndK n).drop (k + 1)) ∧ ∀ b, B.head? = some b → D (k : Int) < D b
theorem InS.start (D : Int → Int) {n k : Nat} (h : k < n) : InS D n k k (safeK D k ++ (ndK n).drop k) :=
  ⟨safeK D k, [], by simp, safeK_len D k, by rw [ndK_drop h]; simp, fun b hb => by simp at hb⟩
theorem InS.len {D : Int → Int} {n k j : Nat} {Z : List Int} (h : InS D n k j Z) (hk : k < n) : Z.length = n := by
  obtain ⟨A, B, h1, h2, rfl, _⟩ := h.ex
  have := safeK_len D k
  rw [← h1, List.length_append] at this
  simp only [List.length_append, List.length_cons, List.length_drop, ndK_len]
  omega
theorem InS.at0 {D : Int → Int} {n k j : Nat} {Z : List Int} (h : InS D n k j Z) : Z[j]? = some (k : Int) := by
  obtain ⟨A, B, _, rfl, rfl, _⟩ := h.ex
  simp
theorem InS.at1 {D : Int → Int} {n k j : Nat} {Z : List Int} (h : InS D n k (j + 1) Z) : ∃ y, Z[j]? = some y ∧ (0 ≤ y ∧ y < (k : Int)) := by
  obtain ⟨A, B, h1, h2, rfl, _⟩ := h.ex
  refine ⟨A[j]'(by omega), by rw [List.getElem?_append_left (by omega)]; exact List.getElem?_eq_getElem _, (safeK_mem D k _).1 ?_⟩
  rw [← h1]
  exact List.mem_append_left _ (List.getElem_mem _)
theorem snoc_or (A : List Int) : A = [] ∨ ∃ A' z, A = A' ++ [z] := by
  rcases List.eq_nil_or_concat A with e | ⟨A', z, e⟩
  · exact .inl e
  · exact .inr ⟨A', z, by rw [e, List.concat_eq_append]⟩
theorem swap_list (A T : List Int) (x y : Int) : ((A ++ y :: x :: T).set (A.length + 1) y).set A.length x = A ++ x :: y :: T := by
  rw [List.set_append_right _ _ (by omega), List.set_append_right _ _ (by omega)]
  simp
theorem InS.step {D : Int → Int} {n k j : Nat} {Z : List Int} (h : InS D n k (j + 1) Z) {y : Int} (hy : Z[j]? = some y) (hlt : D (k : Int) < D y) : InS D n k j ((Z.set (j + 1) y).set j (k : Int)) := by
  obtain ⟨A, B, h1, h2, rfl, h4⟩ := h.ex
  rcases snoc_or A with e | ⟨A', z, rfl⟩
  · subst e; simp at h2
  · have hl : A'.length = j := by simpa using h2
    subst hl
    have hz : z = y := by
      rw [List.getElem?_append_left (by simp)] at hy
      simpa using hy
    subst hz
    refine ⟨A', z :: B, by rw [← h1]; simp, rfl, ?_, fun b hb => ?_⟩
    · rw [show A' ++ [z] ++ (k : Int) :: (B ++ (ndK n).drop (k + 1)) = A' ++ z :: (k : Int) :: (B ++ (ndK n).drop (k + 1)) by simp, swap_list]
      rfl
    · have : z = b := by simpa using hb
      subst this
      exact hlt
/-- Where the inner loop ends, one node more stands in its place. -/
theorem InS.stop {D : Int → Int} {n k j : Nat} {Z : List Int} (h : InS D n k j Z) (hk : k < 16) (hs : ∀ i y, j = i + 1 → Z[i]? = some y → D y ≤ D (k : Int)) : Z = safeK D (k + 1) ++ (ndK n).drop (k + 1) := by
  obtain ⟨A, B, h1, h2, rfl, h4⟩ := h.ex
  have hmem : ∀ y, y ∈ A ++ B → 0 ≤ y ∧ y < (k : Int) := fun y hy => (safeK_mem D k y).1 (h1 ▸ hy)
  have hsort : (A ++ B).Pairwise (fun a b => keyO D a < keyO D b) := h1 ▸ safeK_sorted D k (by omega)
  have hB : ∀ b, B.head? = some b → keyO D (k : Int) < keyO D b := fun b hb => by
    have hb' : b ∈ B := by cases B with
      | nil => simp at hb
      | cons c B => simp at hb; subst hb; exact List.mem_cons_self
    have := hmem b (List.mem_append_right _ hb')
    have := h4 b hb
    unfold keyO
    omega
  have hA : ∀ a ∈ A, keyO D a < keyO D (k : Int) := fun a ha => by
    rcases snoc_or A with e | ⟨A', z, rfl⟩
    · subst e; simp at ha
    · have hz := hs A'.length z (by rw [← h2]; simp) (by rw [List.getElem?_append_left (by simp)]; simp)
      have hzm := hmem z (by simp)
      have hzk : keyO D z < keyO D (k : Int) := by unfold keyO; omega
      rcases List.mem_append.1 ha with ha | ha
      · have := (List.pairwise_append.1 (List.pairwise_append.1 hsort).1).2.2 a ha z (by simp)
        omega
      · have : a = z := by simpa using ha
        subst this
        exact hzk
  show _ = insB D (safeK D k) (k : Int) ++ _
  rw [← h1, insB_split D _ B hB A hA]
  simp
theorem safe_one (D : Int → Int) {n : Nat} (h : 1 ≤ n) : ndK n = safeK D 1 ++ (ndK n).drop 1 := by
  have := ndK_drop (n := n) (k := 0) (by omega)
  rw [List.drop_zero] at this
  exact this
theorem safe_end (D : Int → Int) (n : Nat) : safeK D n ++ (ndK n).drop n = safeK D n := by
  rw [List.drop_eq_nil_of_le (by rw [ndK_len]; exact Nat.le_refl _), List.append_nil]
/-- The next node of the order is the least of those that are left. -/
theorem safe_next (D : Int → Int) {n m : Nat} (hm : m < n) (hn : n ≤ 16) {x : Int} (hx : 0 ≤ x ∧ x < (n : Int)) (hnot : x ∉ (safeK D n).take m) (hmin : ∀ y, 0 ≤ y ∧ y < (n : Int) → y ∉ (safeK D n).take m → keyO D x ≤ keyO D y) : (safeK D n)[m]? = some x := by
  have hl := safeK_len D n
  have hs := safeK_sorted D n hn
  obtain ⟨h, hh⟩ : ∃ h, (safeK D n)[m]? = some h := ⟨(safeK D n)[m]'(by omega), List.getElem?_eq_getElem _⟩
  have e : safeK D n = (safeK D n).take m ++ h :: (safeK D n).drop (m + 1) := by
    conv => lhs; rw [← List.take_append_drop m (safeK D n)]
    congr 1
    rw [List.drop_eq_getElem_cons (by omega)]
    rw [List.getElem?_eq_getElem (by omega)] at hh
    rw [Option.some.inj hh]
  have hs' := hs
  rw [e] at hs'
  have hp := List.pairwise_append.1 hs'
  have hhm : h ∈ safeK D n := List.mem_of_getElem? hh
  have hh0 := (safeK_mem D n h).1 hhm
  have hhn : h ∉ (safeK D n).take m := fun hin => by
    have := hp.2.2 h hin h List.mem_cons_self
    omega
  have h1 := hmin h hh0 hhn
  have hxm : x ∈ safeK D n := (safeK_mem D n x).2 hx
  rw [e] at hxm
  rcases List.mem_append.1 hxm with hxm | hxm
  · exact absurd hxm hnot
  · rcases List.mem_cons.1 hxm with rfl | hxm
    · exact hh
    · have := (List.pairwise_cons.1 hp.2.1).1 x hxm
      omega

end Go.Proofs.Ytjenjdhoblcohaa
