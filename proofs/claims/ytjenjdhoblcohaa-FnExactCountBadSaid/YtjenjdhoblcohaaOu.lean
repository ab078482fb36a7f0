/- The safe order of the program. -/
import Derived.Test.YtjenjdhoblcohaaMf
import Derived.Test.YtjenjdhoblcohaaOi
import Derived.Test.YtjenjdhoblcohaaW1
import Derived.Test.YtjenjdhoblcohaaLm
import Derived.Test.YtjenjdhoblcohaaReg
import Derived.Test.YtjenjdhoblcohaaAs
import Derived.Test.YtjenjdhoblcohaaLq
import Derived.Test.YtjenjdhoblcohaaW4
import Derived.Test.YtjenjdhoblcohaaW3
namespace Go.Proofs.Ytjenjdhoblcohaa
open Go.RowKit

/-- The place of a node in the order: its distance, then its number. -/
def keyO (D : Int → Int) (x : Int) : Int := D x * 16 + x
def insB (D : Int → Int) : List Int → Int → List Int
  | [], x => [x]
  | y :: l, x => if keyO D x < keyO D y then x :: y :: l else y :: insB D l x
/-- The first k nodes in order. -/
def safeK (D : Int → Int) : Nat → List Int
  | 0 => []
  | k + 1 => insB D (safeK D k) (k : Int)
theorem insB_mem (D : Int → Int) (x y : Int) : ∀ l, y ∈ insB D l x ↔ y = x ∨ y ∈ l
  | [] => by simp [insB]
  | a :: l => by
    unfold insB
    split
    · simp
    · rw [List.mem_cons, insB_mem D x y l, List.mem_cons]
      constructor
      · rintro (h | h | h)
        · exact .inr (.inl h)
        · exact .inl h
        · exact .inr (.inr h)
      · rintro (h | h | h)
        · exact .inr (.inl h)
        · exact .inl h
        · exact .inr (.inr h)
theorem insB_len (D : Int → Int) (x : Int) : ∀ l, (insB D l x).length = l.length + 1
  | [] => rfl
  | a :: l => by
    unfold insB
    split
    · rfl
    · rw [List.length_cons, insB_len D x l, List.length_cons]
theorem safeK_len (D : Int → Int) : ∀ k, (safeK D k).length = k
  | 0 => rfl
  | k + 1 => by unfold safeK; rw [insB_len, safeK_len D k]
theorem safeK_mem (D : Int → Int) : ∀ (k : Nat) (y : Int), y ∈ safeK D k ↔ 0 ≤ y ∧ y < (k : Int)
  | 0, y => by simp [safeK]
  | k + 1, y => by unfold safeK; rw [insB_mem, safeK_mem D k]; omega
theorem insB_sorted (D : Int → Int) (x : Int) : ∀ l, l.Pairwise (fun a b => keyO D a < keyO D b) → (∀ y ∈ l, keyO D y ≠ keyO D x) → (insB D l x).Pairwise (fun a b => keyO D a < keyO D b)
  | [], _, _ => by simp [insB]
  | a :: l, h, hn => by
    obtain ⟨h1, h2⟩ := List.pairwise_cons.1 h
    unfold insB
    split
    · rename_i hlt
      refine List.pairwise_cons.2 ⟨fun y hy => ?_, h⟩
      rcases List.mem_cons.1 hy with rfl | hy
      · exact hlt
      · exact Int.lt_trans hlt (h1 y hy)
    · rename_i hge
      refine List.pairwise_cons.2 ⟨fun y hy => ?_, insB_sorted D x l h2 (fun y hy => hn y (List.mem_cons_of_mem _ hy))⟩
      rcases (insB_mem D x y l).1 hy with rfl | hy
      · have := hn a List.mem_cons_self
        omega
      · exact h1 y hy
theorem keyO_inj {D : Int → Int} {x y : Int} (hx : 0 ≤ x ∧ x < 16) (hy : 0 ≤ y ∧ y < 16) (h : keyO D x = keyO D y) : x = y := by
  unfold keyO at h
  omega
theorem safeK_sorted (D : Int → Int) : ∀ k, k ≤ 16 → (safeK D k).Pairwise (fun a b => keyO D a < keyO D b)
  | 0, _ => List.Pairwise.nil
  | k + 1, hk => by
    unfold safeK
    refine insB_sorted D _ _ (safeK_sorted D k (by omega)) (fun y hy e => ?_)
    have := (safeK_mem D k y).1 hy
    have := keyO_inj (by omega) (by omega) e
    omega
theorem insB_split (D : Int → Int) (x : Int) (B : List Int) (hB : ∀ b, B.head? = some b → keyO D x < keyO D b) : ∀ A, (∀ a ∈ A, keyO D a < keyO D x) → insB D (A ++ B) x = A ++ x :: B
  | [], _ => by
    cases B with
    | nil => rfl
    | cons b B => show (if _ then _ else _) = _; rw [if_pos (hB b rfl)]; rfl
  | a :: A, hA => by
    have h1 := hA a List.mem_cons_self
    show (if _ then _ else _) = _
    rw [if_neg (by omega)]
    show a :: insB D (A ++ B) x = _
    rw [insB_split D x B hB A (fun y hy => hA y (List.mem_cons_of_mem _ hy))]
    rfl
/-- The whole order. -/
def safeL (N : Int) (L : List Ed) (d : Int) : List Int := if gok N L = true ∧ ndB N d = true then safeK (fun x => dsT N L x d) N.toNat else []
theorem safeL_len (N : Int) (L : List Ed) (d : Int) : (safeL N L d).length ≤ 10 := by
  unfold safeL
  split
  · rename_i h
    rw [safeK_len]
    have := gok_parts h.1
    omega
  · simp
/-- All nodes, ascending. -/
def ndK (n : Nat) : List Int := (List.range n).map fun (i : Nat) => (i : Int)
theorem ndK_len (n : Nat) : (ndK n).length = n := by simp [ndK]
theorem ndK_at {n i : Nat} (h : i < n) : (ndK n)[i]? = some (i : Int) := by unfold ndK; rw [List.getElem?_map, List.getElem?_range h]; rfl
theorem ndK_succ (n : Nat) : ndK (n + 1) = ndK n ++ [(n : Int)] := by unfold ndK; rw [List.range_succ, List.map_append]; rfl
theorem ndK_drop {n k : Nat} (h : k < n) : (ndK n).drop k = (k : Int) :: (ndK n).drop (k + 1) := by
  rw [List.drop_eq_getElem_cons (by rw [ndK_len]; exact h)]
  congr 1
  have := ndK_at h
  rw [List.getElem?_eq_getElem (by rw [ndK_len]; exact h)] at this
  exact Option.some.inj this
/-- Within the inner loop: what stands where. -/
structure InS (D : Int → Int) (n k j : Nat) (Z : List Int) : Prop where
  ex : ∃ A B, A ++ B = safeK D k ∧ A.length = j ∧ Z = A ++ (k : Int) :: (B ++ (ndK n).drop (k + 1)) ∧ ∀ b, B.head? = some b → D (k : Int) < D b
theorem InS.start (D : Int → Int) {n k : Nat} (h : k < n) : InS D n k k (safeK D k ++ (ndK n).drop k) :=
  ⟨safeK D k, [], by simp, safeK_len D k, by rw [ndK_drop h]; simp, fun b hb => by simp at hb⟩
theorem InS.len {D : Int → Int} {n k j : Nat} {Z : List Int} (h : InS D n k j Z) (hk : k < n) : Z.length = n := by
  obtain ⟨A, B, h1, h2, rfl, _⟩ := h.ex
  have := safeK_len D k
  rw [← h1, List.length_append] at this
  simp only [List.length_append, List.length_cons, List.length_drop, ndK_len]
  omega
theorem InS.at0 {D : Int → Int} {n k j : Nat} {Z : List Int} (h : InS D n k j Z) : Z[j]? = some (k : Int) := by
  obtain ⟨A, B, _, rfl, rfl, _⟩ := h.ex
  simp
theorem InS.at1 {D : Int → Int} {n k j : Nat} {Z : List Int} (h : InS D n k (j + 1) Z) : ∃ y, Z[j]? = some y ∧ (0 ≤ y ∧ y < (k : Int)) := by
  obtain ⟨A, B, h1, h2, rfl, _⟩ := h.ex
  refine ⟨A[j]'(by omega), by rw [List.getElem?_append_left (by omega)]; exact List.getElem?_eq_getElem _, (safeK_mem D k _).1 ?_⟩
  rw [← h1]
  exact List.mem_append_left _ (List.getElem_mem _)
theorem snoc_or (A : List Int) : A = [] ∨ ∃ A' z, A = A' ++ [z] := by
  rcases List.eq_nil_or_concat A with e | ⟨A', z, e⟩
  · exact .inl e
  · exact .inr ⟨A', z, by rw [e, List.concat_eq_append]⟩
theorem swap_list (A T : List Int) (x y : Int) : ((A ++ y :: x :: T).set (A.length + 1) y).set A.length x = A ++ x :: y :: T := by
  rw [List.set_append_right _ _ (by omega), List.set_append_right _ _ (by omega)]
  simp
theorem InS.step {D : Int → Int} {n k j : Nat} {Z : List Int} (h : InS D n k (j + 1) Z) {y : Int} (hy : Z[j]? = some y) (hlt : D (k : Int) < D y) : InS D n k j ((Z.set (j + 1) y).set j (k : Int)) := by
  obtain ⟨A, B, h1, h2, rfl, h4⟩ := h.ex
  rcases snoc_or A with e | ⟨A', z, rfl⟩
  · subst e; simp at h2
  · have hl : A'.length = j := by simpa using h2
    subst hl
    have hz : z = y := by
      rw [List.getElem?_append_left (by simp)] at hy
      simpa using hy
    subst hz
    refine ⟨A', z :: B, by rw [← h1]; simp, rfl, ?_, fun b hb => ?_⟩
    · rw [show A' ++ [z] ++ (k : Int) :: (B ++ (ndK n).drop (k + 1)) = A' ++ z :: (k : Int) :: (B ++ (ndK n).drop (k + 1)) by simp, swap_list]
      rfl
    · have : z = b := by simpa using hb
      subst this
      exact hlt
/-- Where the inner loop ends, one node more stands in its place. -/
theorem InS.stop {D : Int → Int} {n k j : Nat} {Z : List Int} (h : InS D n k j Z) (hk : k < 16) (hs : ∀ i y, j = i + 1 → Z[i]? = some y → D y ≤ D (k : Int)) : Z = safeK D (k + 1) ++ (ndK n).drop (k + 1) := by
  obtain ⟨A, B, h1, h2, rfl, h4⟩ := h.ex
  have hmem : ∀ y, y ∈ A ++ B → 0 ≤ y ∧ y < (k : Int) := fun y hy => (safeK_mem D k y).1 (h1 ▸ hy)
  have hsort : (A ++ B).Pairwise (fun a b => keyO D a < keyO D b) := h1 ▸ safeK_sorted D k (by omega)
  have hB : ∀ b, B.head? = some b → keyO D (k : Int) < keyO D b := fun b hb => by
    have hb' : b ∈ B := by cases B with
      | nil => simp at hb
      | cons c B => simp at hb; subst hb; exact List.mem_cons_self
    have := hmem b (List.mem_append_right _ hb')
    have := h4 b hb
    unfold keyO
    omega
  have hA : ∀ a ∈ A, keyO D a < keyO D (k : Int) := fun a ha => by
    rcases snoc_or A with e | ⟨A', z, rfl⟩
    · subst e; simp at ha
    · have hz := hs A'.length z (by rw [← h2]; simp) (by rw [List.getElem?_append_left (by simp)]; simp)
      have hzm := hmem z (by simp)
      have hzk : keyO D z < keyO D (k : Int) := by unfold keyO; omega
      rcases List.mem_append.1 ha with ha | ha
      · have := (List.pairwise_append.1 (List.pairwise_append.1 hsort).1).2.2 a ha z (by simp)
        omega
      · have : a = z := by simpa using ha
        subst this
        exact hzk
  show _ = insB D (safeK D k) (k : Int) ++ _
  rw [← h1, insB_split D _ B hB A hA]
  simp
theorem safe_one (D : Int → Int) {n : Nat} (h : 1 ≤ n) : ndK n = safeK D 1 ++ (ndK n).drop 1 := by
  have := ndK_drop (n := n) (k := 0) (by omega)
  rw [List.drop_zero] at this
  exact this
theorem safe_end (D : Int → Int) (n : Nat) : safeK D n ++ (ndK n).drop n = safeK D n := by
  rw [List.drop_eq_nil_of_le (by rw [ndK_len]; exact Nat.le_refl _), List.append_nil]
/-- The next node of the order is the least of those that are left. -/
theorem safe_next (D : Int → Int) {n m : Nat} (hm : m < n) (hn : n ≤ 16) {x : Int} (hx : 0 ≤ x ∧ x < (n : Int)) (hnot : x ∉ (safeK D n).take m) (hmin : ∀ y, 0 ≤ y ∧ y < (n : Int) → y ∉ (safeK D n).take m → keyO D x ≤ keyO D y) : (safeK D n)[m]? = some x := by
  have hl := safeK_len D n
  have hs := safeK_sorted D n hn
  obtain ⟨h, hh⟩ : ∃ h, (safeK D n)[m]? = some h := ⟨(safeK D n)[m]'(by omega), List.getElem?_eq_getElem _⟩
  have e : safeK D n = (safeK D n).take m ++ h :: (safeK D n).drop (m + 1) := by
    conv => lhs; rw [← List.take_append_drop m (safeK D n)]
    congr 1
    rw [List.drop_eq_getElem_cons (by omega)]
    rw [List.getElem?_eq_getElem (by omega)] at hh
    rw [Option.some.inj hh]
  have hs' := hs
  rw [e] at hs'
  have hp := List.pairwise_append.1 hs'
  have hhm : h ∈ safeK D n := List.mem_of_getElem? hh
  have hh0 := (safeK_mem D n h).1 hhm
  have hhn : h ∉ (safeK D n).take m := fun hin => by
    have := hp.2.2 h hin h List.mem_cons_self
    omega
  have h1 := hmin h hh0 hhn
  have hxm : x ∈ safeK D n := (safeK_mem D n x).2 hx
  rw [e] at hxm
  rcases List.mem_append.1 hxm with hxm | hxm
  · exact absurd hxm hnot
  · rcases List.mem_cons.1 hxm with rfl | hxm
    · exact hh
    · have := (List.pairwise_cons.1 hp.2.1).1 x hxm
      omega

/-- The table of distances and the node, as the comparison finds them. -/
structure Dz (X Y M : Nat) (D : Int → Int) (d : Nat) (W : World) : Prop where
  tab : ∃ G cap, W.cell? ⟨X, 0, none⟩ = some (.slice (some ⟨G, 0, none⟩) M cap) ∧ G < W.heap.size ∧ ∀ i, i < M → ∃ gi ci, W.cell? ⟨G, i, none⟩ = some (.slice (some ⟨gi, 0, none⟩) M ci) ∧ gi < W.heap.size ∧ W.cell? ⟨gi, d, none⟩ = some (.int .i64 (D (i : Int)))
  nd : W.cell? ⟨Y, 0, none⟩ = some (.int .i64 (d : Int))
  lt : X < W.heap.size ∧ Y < W.heap.size ∧ d < M ∧ M ≤ 10
theorem Dz.grow {X Y M d : Nat} {D : Int → Int} {W W' : World} (h : Dz X Y M D d W) (b : Below W.heap.size W W') : Dz X Y M D d W' where
  tab := by
    obtain ⟨G, cap, h1, h2, h3⟩ := h.tab
    refine ⟨G, cap, by rw [b.cell (p := ⟨X, 0, none⟩) h.lt.1]; exact h1, Nat.lt_of_lt_of_le h2 b.size, fun i hi => ?_⟩
    obtain ⟨gi, ci, h4, h5, h6⟩ := h3 i hi
    exact ⟨gi, ci, by rw [b.cell (p := ⟨G, i, none⟩) h2]; exact h4, Nat.lt_of_lt_of_le h5 b.size, by rw [b.cell (p := ⟨gi, d, none⟩) h5]; exact h6⟩
  nd := by rw [b.cell (p := ⟨Y, 0, none⟩) h.lt.2.1]; exact h.nd
  lt := ⟨Nat.lt_of_lt_of_le h.lt.1 b.size, Nat.lt_of_lt_of_le h.lt.2.1 b.size, h.lt.2.2⟩
theorem cmpI_less (a b : Int) : decide (cmpI a b < 0) = decide (a < b) := by
  unfold cmpI
  refine decide_eq_decide.2 ?_
  split
  · constructor <;> intros <;> omega
  · split <;> constructor <;> intros <;> omega

set_option maxRecDepth 100000 in
set_option maxHeartbeats 4000000 in
theorem clos_any (X Y M d i j : Nat) (D : Int → Int) (w : World) (h : Dz X Y M D d w) (hi : i < M) (hj : j < M) :
    Calls Try.prog 64 #[.int .i64 (i : Int), .int .i64 (j : Int), .pointer (some ⟨X, 0, none⟩), .pointer (some ⟨Y, 0, none⟩)] w fun e w' => e = .returned (.int .i64 (cmpI (D (i : Int)) (D (j : Int)))) ∧ Below w.heap.size w w' := by
  obtain ⟨G, cap, h1, h2, h3⟩ := h.tab
  obtain ⟨gi, ci, h4, h5, h6⟩ := h3 i hi
  obtain ⟨gj, cj, h7, h8, h9⟩ := h3 j hj
  have h0 := h.nd
  have hl := h.lt
  have p0 : (0 : Int) ≤ (i : Int) := by omega
  have p1 : (i : Int) < (M : Int) := by omega
  have p2 : (0 : Int) ≤ (j : Int) := by omega
  have p3 : (j : Int) < (M : Int) := by omega
  have p4 : (0 : Int) ≤ (d : Int) := by omega
  have p5 : (d : Int) < (M : Int) := by omega
  generalize D (i : Int) = a at *
  generalize D (j : Int) = b at *
  clear h3 h hl
  go_enter Try.func64, Try.ntmps64
  go_wp2_with fail
  go_region_held3 (fun w' => w'.cell? ⟨X, 0, none⟩ = some (.slice (some ⟨G, 0, none⟩) M cap) ∧ w'.cell? ⟨Y, 0, none⟩ = some (.int .i64 (d : Int)) ∧ w'.cell? ⟨G, i, none⟩ = some (.slice (some ⟨gi, 0, none⟩) M ci) ∧ w'.cell? ⟨gi, d, none⟩ = some (.int .i64 a) ∧ w'.cell? ⟨G, j, none⟩ = some (.slice (some ⟨gj, 0, none⟩) M cj) ∧ w'.cell? ⟨gj, d, none⟩ = some (.int .i64 b) ∧ Hid (Below w.heap.size w w')) (first | assumption | exact ⟨h1, h0, h4, h6, h7, h9, Lib.hid (Below.refl _ _).drew⟩ | exact ⟨h1, h0, h4, h6, h7, h9, Lib.hid (Below.refl _ _)⟩)
    (first | (go_at_call 65; refine (cmp_any a b _).mono ?_; rintro e w2 ⟨rfl, rfl⟩))
  go_wp2
  go_ret
  exact ⟨rfl, (Below.refl _ _).drew⟩

theorem rin_start {w0 w : World} {g cap M a b : Nat} {Z : List Int} {x y : Int} (h : OwnI w0 w (.slice (some ⟨g, 0, none⟩) M cap) M Z) (ha : a < M) (hb : b < M) (hx : Z[a]? = some x) (hy : Z[b]? = some y) :
    w.cell? ⟨g, a, none⟩ = some (.int .i64 x) ∧ w.cell? ⟨g, b, none⟩ = some (.int .i64 y) ∧ Hid (OwnI w0 w (.slice (some ⟨g, 0, none⟩) M cap) M Z) := ⟨h.at ha hx, h.at hb hy, h⟩
theorem rin_out {w0 w : World} {g cap M a b : Nat} {Z : List Int} {x y : Int} (h : w.cell? ⟨g, a, none⟩ = some (.int .i64 x) ∧ w.cell? ⟨g, b, none⟩ = some (.int .i64 y) ∧ Hid (OwnI w0 w (.slice (some ⟨g, 0, none⟩) M cap) M Z)) : Below w0.heap.size w0 w := h.2.2.out.below
theorem rin_own {w0 w : World} {g cap M a b : Nat} {Z : List Int} {x y : Int} (h : w.cell? ⟨g, a, none⟩ = some (.int .i64 x) ∧ w.cell? ⟨g, b, none⟩ = some (.int .i64 y) ∧ Hid (OwnI w0 w (.slice (some ⟨g, 0, none⟩) M cap) M Z)) : Hid (OwnI w0 w (.slice (some ⟨g, 0, none⟩) M cap) M Z) := h.2.2
theorem rin_keep {w0 w w' : World} {g cap M a b : Nat} {Z : List Int} {x y : Int} (hz : Z[a]? = some x ∧ Z[b]? = some y ∧ a < M ∧ b < M)
    (h : w.cell? ⟨g, a, none⟩ = some (.int .i64 x) ∧ w.cell? ⟨g, b, none⟩ = some (.int .i64 y) ∧ Hid (OwnI w0 w (.slice (some ⟨g, 0, none⟩) M cap) M Z)) (hb : Below w.heap.size w w') :
    w'.cell? ⟨g, a, none⟩ = some (.int .i64 x) ∧ w'.cell? ⟨g, b, none⟩ = some (.int .i64 y) ∧ Hid (OwnI w0 w' (.slice (some ⟨g, 0, none⟩) M cap) M Z) := rin_start (h.2.2.out.grow hb) hz.2.2.1 hz.2.2.2 hz.1 hz.2.1

set_option maxRecDepth 100000 in
set_option maxHeartbeats 4000000 in
theorem isort_any (X Y M d g cap : Nat) (D : Int → Int) (w0 w : World) (h : Dz X Y M D d w0) (hO : OwnI w0 w (.slice (some ⟨g, 0, none⟩) M cap) M (ndK M)) :
    Calls Try.prog 110 #[.slice (some ⟨g, 0, none⟩) M cap, .int .i64 0, .int .i64 (M : Int), .func (.func 64) #[] #[.pointer (some ⟨X, 0, none⟩), .pointer (some ⟨Y, 0, none⟩)]] w fun e w' => e = .returned (.tuple #[]) ∧ OwnI w0 w' (.slice (some ⟨g, 0, none⟩) M cap) M (safeK D M) := by
  have HD := Lib.hid h
  have hl := h.lt
  have hM1 : 1 ≤ M := by omega
  have hM2 : M ≤ 10 := by omega
  have H0 : Hid (OwnI w0 w (.slice (some ⟨g, 0, none⟩) M cap) M (safeK D 1 ++ (ndK M).drop 1)) := by rw [← safe_one D hM1]; exact hO
  clear h hO hl
  go_enter Try.func110, Try.ntmps110
  go_wp2_with fail
  go_loopw [8, 9] (fun vi _ wr => ∃ k : Nat, vi = .int .i64 (k : Int) ∧ 1 ≤ k ∧ k ≤ M ∧ Hid (OwnI w0 wr (.slice (some ⟨g, 0, none⟩) M cap) M (safeK D k ++ (ndK M).drop k))) (fun vi _ _ => M - (intOf vi).toNat)
  case atStart => exact ⟨1, rfl, Nat.le_refl _, hM1, H0⟩
  case round =>
    obtain ⟨k, rfl, hk1, hk, hR⟩ := hrel
    by_cases hlt : k < M
    · have q0 : (k : Int) < (M : Int) := by omega
      go_wp2_with fail
      go_loopw [9] (fun vj wr2 => ∃ (j : Nat) (Z : List Int), vj = .int .i64 (j : Int) ∧ j ≤ k ∧ Hid (OwnI w0 wr2 (.slice (some ⟨g, 0, none⟩) M cap) M Z) ∧ Hid (InS D M k j Z)) (fun vj _ => (intOf vj).toNat)
      case atStart => exact ⟨k, _, rfl, Nat.le_refl _, hR, InS.start D hlt⟩
      case round =>
        obtain ⟨j, Z, rfl, hj, hR2, hI⟩ := hrel
        have HZL := Lib.hid (hI.out.len hlt)
        by_cases hj0 : j = 0
        · have HN : Hid (OwnI w0 wr (.slice (some ⟨g, 0, none⟩) M cap) M (safeK D (k + 1) ++ (ndK M).drop (k + 1))) := by
            have e := hI.out.stop (by omega) (fun i y he _ => by omega)
            rw [← e]
            exact hR2.out
          subst hj0
          clear hR hR2
          go_wp2_with fail
          go_quiet (fail)
          go_wp2_with fail
          go_roundw
          case rel => exact ⟨k + 1, by go_num, by omega, by omega, Lib.hid (HN.out.drewN _)⟩
          case measure => simp [intOf]; omega
        · obtain ⟨q, hq⟩ : ∃ q, j = q + 1 := ⟨j - 1, by omega⟩
          have hI' := hI.out
          rw [hq] at hI'
          have z0 := hI'.at0
          obtain ⟨y, z1, hy0, hyk⟩ := hI'.at1
          have HI := Lib.hid hI'
          have hZ : Z[j]? = some (k : Int) ∧ Z[q]? = some y ∧ j < M ∧ q < M := ⟨by rw [hq]; exact z0, z1, by omega, by omega⟩
          have HZ := Lib.hid hZ
          have c0 := hR2.out.at hZ.2.2.1 hZ.1
          have c1 := hR2.out.at hZ.2.2.2 hZ.2.1
          have f0 := hR2.out.frz j
          have f1 := hR2.out.frz q
          have hne : ¬ j = q := by omega
          obtain ⟨yn, rfl⟩ : ∃ yn : Nat, y = (yn : Int) := ⟨y.toNat, by omega⟩
          have hyk' : yn < M := by omega
          have p0 : (0 : Int) ≤ (j : Int) := by omega
          have p1 : (j : Int) < (M : Int) := by omega
          have p2 : (0 : Int) ≤ (q : Int) := by omega
          have p3 : (q : Int) < (M : Int) := by omega
          have p4 : (0 : Int) < (j : Int) := by omega
          have p5 : decide ((j : Int) > 0) = true := decide_eq_true (by omega)
          have p6 : decide (0 < j) = true := decide_eq_true (by omega)
          have hw1 : IntKind.i64.wrap ((j : Int) - 1) = (q : Int) := by rw [IntKind.wrap_i64]; omega
          have HQ := Lib.hid hq
          have hcl := cmpI_less (D (k : Int)) (D (yn : Int))
          have HC := Lib.hid (fun w' (h' : Below w0.heap.size w0 w') => clos_any X Y M d k yn D w' (HD.out.grow h') hlt hyk')
          generalize hcv : cmpI (D (k : Int)) (D (yn : Int)) = cv at *
          have Hcl := Lib.hid hcl
          clear hI' z0 z1 hZ hq hI hcl hcv hj0 hR
          by_cases hcc : cv < 0
          · have hdlt : D (k : Int) < D (yn : Int) := of_decide_eq_true (by rw [← Hcl.out]; exact decide_eq_true hcc)
            have HI2 := Lib.hid (HI.out.step HZ.out.2.1 hdlt)
            clear hdlt
            go_wp2_with fail
            go_region_held3 (fun w' => w'.cell? ⟨g, j, none⟩ = some (.int .i64 (k : Int)) ∧ w'.cell? ⟨g, q, none⟩ = some (.int .i64 (yn : Int)) ∧ Hid (OwnI w0 w' (.slice (some ⟨g, 0, none⟩) M cap) M Z)) (first | assumption | exact ⟨c0, c1, Lib.hid hR2.out.drew⟩ | exact ⟨c0, c1, hR2⟩ | exact rin_keep HZ.out (by assumption) (by assumption) | exact rin_keep HZ.out (by assumption) ((Below.refl _ _).drew))
              (first | (go_at_call 64; refine (HC.out _ (rin_out (by assumption))).mono ?_; rintro e w2 ⟨rfl, hb2⟩))
            have HO6 := rin_own (by assumption)
            have d0 := HO6.out.at HZ.out.2.2.1 HZ.out.1
            have d1 := HO6.out.at HZ.out.2.2.2 HZ.out.2.1
            have g0 := HO6.out.frz j
            have g1 := HO6.out.frz q
            have HS : Hid (OwnI w0 ((w2.setCell ⟨g, j, none⟩ (.int .i64 (yn : Int))).setCell ⟨g, q, none⟩ (.int .i64 (k : Int))) (.slice (some ⟨g, 0, none⟩) M cap) M ((Z.set j (yn : Int)).set q (k : Int))) := (HO6.out.set j _).set q _
            have HIq : Hid (InS D M k q ((Z.set j (yn : Int)).set q (k : Int))) := by rw [HQ.out]; exact HI2.out
            clear c0 c1 f0 f1 HC HO6 HI2
            go_wp2_with fail
            go_region
            go_wp2_with fail
            go_roundw
            case rel => exact ⟨q, _, by go_num, by have h1 : j = q + 1 := HQ.out; omega, Lib.hid HS.out.drew, HIq⟩
            case measure =>
              have hq1 : j = q + 1 := HQ.out
              subst hq1
              simp only [intOf, Int.toNat_natCast]
              omega
          · have hdge : ¬ (D (k : Int) < D (yn : Int)) := of_decide_eq_false (by rw [← Hcl.out]; exact decide_eq_false hcc)
            have HN : ∀ W, OwnI w0 W (.slice (some ⟨g, 0, none⟩) M cap) M Z → Hid (OwnI w0 W (.slice (some ⟨g, 0, none⟩) M cap) M (safeK D (k + 1) ++ (ndK M).drop (k + 1))) := fun W hW => by
              have e := HI.out.stop (by omega) (fun i y' he hy' => by
                have : i = q := by omega
                subst this
                rw [HZ.out.2.1] at hy'
                cases hy'
                omega)
              show OwnI _ _ _ _ _
              rw [← e]
              exact hW
            have HNh := Lib.hid HN
            clear hdge HN
            go_wp2_with fail
            go_region_held3 (fun w' => w'.cell? ⟨g, j, none⟩ = some (.int .i64 (k : Int)) ∧ w'.cell? ⟨g, q, none⟩ = some (.int .i64 (yn : Int)) ∧ Hid (OwnI w0 w' (.slice (some ⟨g, 0, none⟩) M cap) M Z)) (first | assumption | exact ⟨c0, c1, Lib.hid hR2.out.drew⟩ | exact ⟨c0, c1, hR2⟩ | exact rin_keep HZ.out (by assumption) (by assumption) | exact rin_keep HZ.out (by assumption) ((Below.refl _ _).drew))
              (first | (go_at_call 64; refine (HC.out _ (rin_out (by assumption))).mono ?_; rintro e w2 ⟨rfl, hb2⟩))
            have HO6 := HNh.out _ (rin_own (by assumption)).out
            go_wp2_with fail
            go_roundw
            case rel => exact ⟨k + 1, by go_num, by omega, by omega, HO6⟩
            case measure => simp [intOf]; omega
    · obtain rfl : k = M := by omega
      have hge : ¬ ((k : Int) < (k : Int)) := by omega
      have HE : Hid (OwnI w0 wr (.slice (some ⟨g, 0, none⟩) k cap) k (safeK D k)) := by
        have := hR.out
        rw [safe_end] at this
        exact this
      go_wp2_with fail
      exact bodyPost_end (v := .tuple #[]) (by simp [results, Try.results110, go_sem]) rfl ⟨rfl, HE.out⟩

set_option maxRecDepth 100000 in
set_option maxHeartbeats 4000000 in
theorem stable_any (X Y M d g cap : Nat) (D : Int → Int) (w0 w : World) (h : Dz X Y M D d w0) (hO : OwnI w0 w (.slice (some ⟨g, 0, none⟩) M cap) M (ndK M)) :
    Calls Try.prog 90 #[.slice (some ⟨g, 0, none⟩) M cap, .int .i64 (M : Int), .func (.func 64) #[] #[.pointer (some ⟨X, 0, none⟩), .pointer (some ⟨Y, 0, none⟩)]] w fun e w' => e = .returned (.tuple #[]) ∧ OwnI w0 w' (.slice (some ⟨g, 0, none⟩) M cap) M (safeK D M) := by
  have hl := h.lt
  have hM2 : M ≤ 10 := by omega
  have HC := Lib.hid (isort_any X Y M d g cap D w0 w h hO)
  have p0 : ¬ ((20 : Int) ≤ (M : Int)) := by omega
  have p1 : ¬ ((20 : Int) < (M : Int)) := by omega
  clear h hO hl
  go_enter Try.func90, Try.ntmps90
  go_wp2_with fail
  go_loopw [7, 8] (fun a b wr => a = .int .i64 0 ∧ b = .int .i64 20 ∧ w = wr) (fun _ _ _ => 0)
  case atStart => exact ⟨rfl, rfl, rfl⟩
  case round =>
    obtain ⟨rfl, rfl, rfl⟩ := hrel
    go_wp2_with fail
    go_at_call 110
    refine HC.out.mono ?_
    rintro e w2 ⟨rfl, hO2⟩
    have HO2 := Lib.hid hO2
    clear hO2 HC
    go_wp2_with fail
    go_loopw [6, 7, 8, 9] (fun a _ _ _ wr => a = .int .i64 20 ∧ w2 = wr) (fun _ _ _ _ _ => 0)
    case atStart => exact ⟨rfl, rfl⟩
    case round =>
      obtain ⟨rfl, rfl⟩ := hrel
      go_wp2_with fail
      exact bodyPost_end (v := .tuple #[]) (by simp [results, Try.results90, go_sem]) rfl ⟨rfl, HO2.out⟩

set_option maxRecDepth 100000 in
set_option maxHeartbeats 4000000 in
theorem sortst_any (X Y M d g cap : Nat) (D : Int → Int) (w0 w : World) (h : Dz X Y M D d w0) (hO : OwnI w0 w (.slice (some ⟨g, 0, none⟩) M cap) M (ndK M)) :
    Calls Try.prog 63 #[.slice (some ⟨g, 0, none⟩) M cap, .func (.func 64) #[] #[.pointer (some ⟨X, 0, none⟩), .pointer (some ⟨Y, 0, none⟩)]] w fun e w' => e = .returned (.tuple #[]) ∧ OwnI w0 w' (.slice (some ⟨g, 0, none⟩) M cap) M (safeK D M) := by
  have HC := Lib.hid (stable_any X Y M d g cap D w0 w h hO)
  clear h hO
  go_enter Try.func63, Try.ntmps63
  go_wp2_with fail
  go_at_call 90
  refine HC.out.mono ?_
  rintro e w2 ⟨rfl, hO2⟩
  have HO2 := Lib.hid hO2
  clear hO2 HC
  go_wp2_with fail
  exact bodyPost_end (v := .tuple #[]) (by simp [results, Try.results63, go_sem]) rfl ⟨rfl, HO2.out⟩

theorem OwnI.base {w w1 wr : World} {v : Value} {n : Nat} {Z : List Int} (h : OwnI w1 wr v n Z) (b : Below w.heap.size w w1) : OwnI w wr v n Z := by
  have hs := b.size
  refine ⟨b.trans (h.below.mono hs), ?_⟩
  obtain ⟨h1, h2⟩ := h.row
  refine ⟨h1, ?_⟩
  rcases h2 with h2 | ⟨g, cap, cur, e, hg, h3⟩
  · exact .inl h2
  · exact .inr ⟨g, cap, cur, e, Nat.le_trans hs hg, h3⟩
set_option maxRecDepth 100000 in
set_option maxHeartbeats 4000000 in
theorem nodes_any (M : Nat) (v : Value) (w : World) (hM : M ≤ 10) (hv : ∃ a n c, v = .slice a n c) :
    Calls Try.prog 62 #[.agg #[.int .i64 (M : Int), v]] w fun e w' => ∃ rv, e = .returned rv ∧ OwnI w w' rv M (ndK M) := by
  obtain ⟨ad, n, cp, rfl⟩ := hv
  obtain ⟨i3, hi3, hz0, hz1, hz2⟩ := info_parts Try.info3
  have I := Lib.hid (And.intro hi3 (And.intro hz0 (And.intro hz1 hz2)))
  clear hi3 hz0 hz1 hz2
  go_enter Try.func62, Try.ntmps62
  go_wp2_with fail
  obtain ⟨v0, hv0⟩ : ∃ v0, v0 = w.alloc (.cells #[.int .i64 (M : Int), .slice ad n cp] 29) := ⟨_, rfl⟩
  have hb0 : Below w.heap.size w v0 := by rw [hv0]; exact (Below.refl _ _).alloc (Nat.le_refl _) _
  have hs0 : v0.heap.size = w.heap.size + 1 := by rw [hv0]; simp
  rw [← hv0]
  have HB0 := Lib.hid hb0
  have HS0 := Lib.hid hs0
  clear hv0 hb0 hs0
  go_loopw [3, 7] (fun v i wr => ∃ k : Nat, k ≤ M ∧ i = .int .i64 (k : Int) ∧ Hid (OwnI v0 wr v k (ndK k))) (fun _ i _ => M - (intOf i).toNat)
  case atStart => exact ⟨0, Nat.zero_le _, rfl, Lib.hid (OwnI.nil v0)⟩
  case round =>
    obtain ⟨k, hk, rfl, hR⟩ := hrel
    obtain ⟨oa, oc, hov⟩ := own_slice hR.out.row
    subst hov
    have hsz := hR.out.below.size
    by_cases hlt : k < M
    · have q0 : (k : Int) < (M : Int) := by omega
      have Hw := Lib.hid hR.out.row
      have hkl := ndK_len k
      have Hkl := Lib.hid hkl
      clear hkl
      go_wp2_with (at_builtin; refine wpList_append_lies _ rfl _ _ 33 rfl v0.heap.size 3 i3 (.int .i64 0) 1 8 Try.underlying33 I.out.1 I.out.2.1 I.out.2.2.1 I.out.2.2.2 rfl (by decide) _ k (ints (ndK k)) rfl (Hw.out.alloc _) ⟨wr.heap.size, 0, none⟩ 1 1 [.int .i64 (k : Int)] rfl rfl ?d0 (int_one _) (by decide) ?d1 ?d2 ?d3 _ rfl ?_)
      case d0 => exact fun a u ha => cell_one_new _ _ 3 rfl a u ha
      case d1 => unfold maxLen; omega
      case d2 => omega
      case d3 => simp; omega
      intro g4 cap4 w4 hown4 hgrow4 hat4 hlt4
      have HF : Hid (OwnI v0 w4 (.slice (some ⟨g4, 0, none⟩) (k + 1) cap4) (k + 1) (ndK (k + 1))) := by
        rw [ndK_succ]
        exact (hR.out.grow ((Below.refl _ _).alloc (Nat.le_refl _) _)).app hgrow4 hown4
      clear hown4 hgrow4 hat4 hlt4 hR Hw
      go_wp2_with fail
      go_roundw
      case rel => exact ⟨k + 1, by omega, by go_num, HF⟩
      case measure => simp [intOf]; omega
    · obtain rfl : k = M := by omega
      have hge : ¬ ((k : Int) < (k : Int)) := by omega
      go_wp2_with fail
      go_ret
      exact ⟨_, rfl, hR.out.base HB0.out⟩


set_option maxRecDepth 100000 in
set_option maxHeartbeats 4000000 in
theorem isafe_no0 (N : Int) (lo hi n : Nat) (v : Value) (L : List Ed) (d : Int) (w : World) (hL : L.length = n) (hr : Row 3 w lo hi v n (flat L)) (hh : hi ≤ w.heap.size) (hn : gok N L = false) :
    Calls Try.prog 26 #[.agg #[.int .i64 N, v], .int .i64 d] w (LoPost [] w) := by
  have HR := Lib.hid hr
  have Hn := Lib.hid hn
  obtain ⟨ad, cp, rfl⟩ := hr.slice
  clear hr hn
  go_enter Try.func26, Try.ntmps26
  go_wp2_with fail
  go_at_call 51
  refine (igok_any N lo hi n _ L _ hL (HR.out.below (B := w.heap.size) (by go_grown) (by omega)) (by simp; omega)).mono ?_
  rw [Hn.out]
  rintro e v1 ⟨rfl, hb1⟩
  have sz1 : w.heap.size + 2 ≤ v1.heap.size := by have hh := hb1.size; simp at hh; omega
  have st1 : Below w.heap.size w v1 := Below.trans (by go_grown) (hb1.mono (by simp <;> omega))
  have c1_0 : v1.cell? ⟨w.heap.size, 0, none⟩ = some (.int .i64 N) := by rw [(bcell hb1).1 _ _ (by simp <;> omega), old_box (by simp <;> omega)]; first | (rw [new_at (by simp)]; rfl) | simp
  have c1_1 : v1.cell? ⟨w.heap.size, 1, none⟩ = some (.slice ad n cp) := by rw [(bcell hb1).1 _ _ (by simp <;> omega), old_box (by simp <;> omega)]; first | (rw [new_at (by simp)]; rfl) | simp
  have c1_2 : v1.cell? ⟨w.heap.size + 1, 0, none⟩ = some (.int .i64 d) := by rw [(bcell hb1).1 _ _ (by simp)]; first | (rw [new_at (by simp)]; rfl) | simp
  have B1 : Hid (Below w.heap.size w v1) := st1
  have R1_0 : Hid (Row 3 v1 (lo) (hi) (.slice ad n cp) n (flat L)) := HR.out.below st1 (by omega)
  have d1_0 : w.heap.size < v1.heap.size := by omega
  have e1_0 : w.heap.size ≠ v1.heap.size := by omega
  have d1_1 : w.heap.size + 1 < v1.heap.size := by omega
  have e1_1 : w.heap.size + 1 ≠ v1.heap.size := by omega
  clear st1 HR hb1
  go_wp2_with fail
  go_ret
  exact ⟨_, rfl, Row.empty 1 _ _ _ _ _, B1.out⟩

set_option maxRecDepth 100000 in
set_option maxHeartbeats 4000000 in
theorem isafe_no1 (N : Int) (lo hi n : Nat) (v : Value) (L : List Ed) (d : Int) (w : World) (hL : L.length = n) (hr : Row 3 w lo hi v n (flat L)) (hh : hi ≤ w.heap.size) (hn : gok N L = true ∧ ndB N d = false) :
    Calls Try.prog 26 #[.agg #[.int .i64 N, v], .int .i64 d] w (LoPost [] w) := by
  have HR := Lib.hid hr
  have Hn := Lib.hid hn
  obtain ⟨ad, cp, rfl⟩ := hr.slice
  clear hr hn
  go_enter Try.func26, Try.ntmps26
  go_wp2_with fail
  go_at_call 51
  refine (igok_any N lo hi n _ L _ hL (HR.out.below (B := w.heap.size) (by go_grown) (by omega)) (by simp; omega)).mono ?_
  rw [Hn.out.1]
  rintro e v1 ⟨rfl, hb1⟩
  have sz1 : w.heap.size + 2 ≤ v1.heap.size := by have hh := hb1.size; simp at hh; omega
  have st1 : Below w.heap.size w v1 := Below.trans (by go_grown) (hb1.mono (by simp <;> omega))
  have c1_0 : v1.cell? ⟨w.heap.size, 0, none⟩ = some (.int .i64 N) := by rw [(bcell hb1).1 _ _ (by simp <;> omega), old_box (by simp <;> omega)]; first | (rw [new_at (by simp)]; rfl) | simp
  have c1_1 : v1.cell? ⟨w.heap.size, 1, none⟩ = some (.slice ad n cp) := by rw [(bcell hb1).1 _ _ (by simp <;> omega), old_box (by simp <;> omega)]; first | (rw [new_at (by simp)]; rfl) | simp
  have c1_2 : v1.cell? ⟨w.heap.size + 1, 0, none⟩ = some (.int .i64 d) := by rw [(bcell hb1).1 _ _ (by simp)]; first | (rw [new_at (by simp)]; rfl) | simp
  have B1 : Hid (Below w.heap.size w v1) := st1
  have R1_0 : Hid (Row 3 v1 (lo) (hi) (.slice ad n cp) n (flat L)) := HR.out.below st1 (by omega)
  have d1_0 : w.heap.size < v1.heap.size := by omega
  have e1_0 : w.heap.size ≠ v1.heap.size := by omega
  have d1_1 : w.heap.size + 1 < v1.heap.size := by omega
  have e1_1 : w.heap.size + 1 ≠ v1.heap.size := by omega
  clear st1 HR hb1
  go_wp2_with fail
  go_at_call 52
  refine (hasNode_any N _ _ _ d _).mono ?_
  rw [Hn.out.2]
  rintro e v2 ⟨rfl, hb2⟩
  have sz2 : v1.heap.size ≤ v2.heap.size := hb2.size
  have st2 : Below v1.heap.size v1 v2 := hb2
  have c2_0 : v2.cell? ⟨w.heap.size, 0, none⟩ = some (.int .i64 N) := by rw [(bcell st2).1 _ _ (by omega)]; exact c1_0
  have c2_1 : v2.cell? ⟨w.heap.size, 1, none⟩ = some (.slice ad n cp) := by rw [(bcell st2).1 _ _ (by omega)]; exact c1_1
  have c2_2 : v2.cell? ⟨w.heap.size + 1, 0, none⟩ = some (.int .i64 d) := by rw [(bcell st2).1 _ _ (by omega)]; exact c1_2
  have B2 : Hid (Below w.heap.size w v2) := B1.out.trans (st2.mono (by omega))
  have R2_0 : Hid (Row 3 v2 (lo) (hi) (.slice ad n cp) n (flat L)) := R1_0.out.below st2 (by omega)
  have d2_0 : w.heap.size < v2.heap.size := by omega
  have e2_0 : w.heap.size ≠ v2.heap.size := by omega
  have d2_1 : w.heap.size + 1 < v2.heap.size := by omega
  have e2_1 : w.heap.size + 1 ≠ v2.heap.size := by omega
  clear d1_0 e1_0 d1_1 e1_1 c1_0 c1_1 c1_2 B1 st2 R1_0 hb2
  go_wp2_with fail
  go_ret
  exact ⟨_, rfl, Row.empty 1 _ _ _ _ _, B2.out⟩

set_option maxRecDepth 100000 in
set_option maxHeartbeats 4000000 in
theorem isafe_yes (M : Nat) (lo hi n : Nat) (v : Value) (L : List Ed) (d : Nat) (w : World) (hL : L.length = n) (hr : Row 3 w lo hi v n (flat L)) (hh : hi ≤ w.heap.size) (hG : gok (M : Int) L = true) (hd : d < M) :
    Calls Try.prog 26 #[.agg #[.int .i64 (M : Int), v], .int .i64 (d : Int)] w (LoPost (safeK (fun x => dsT (M : Int) L x (d : Int)) M) w) := by
  have HR := Lib.hid hr
  have HG := Lib.hid hG
  have hN2 := (gok_parts hG).2.1
  have hnd : ndB (M : Int) (d : Int) = true := by unfold ndB; rw [inB_iff]; omega
  obtain ⟨ad, cp, rfl⟩ := hr.slice
  clear hr
  go_enter Try.func26, Try.ntmps26
  go_wp2_with fail
  go_at_call 51
  refine (igok_any (M : Int) lo hi n _ L _ hL (HR.out.below (B := w.heap.size) (by go_grown) (by omega)) (by simp; omega)).mono ?_
  rw [HG.out]
  rintro e v1 ⟨rfl, hb1⟩
  have sz1 : w.heap.size + 2 ≤ v1.heap.size := by have hh := hb1.size; simp at hh; omega
  have st1 : Below w.heap.size w v1 := Below.trans (by go_grown) (hb1.mono (by simp <;> omega))
  have c1_0 : v1.cell? ⟨w.heap.size, 0, none⟩ = some (.int .i64 (M : Int)) := by rw [(bcell hb1).1 _ _ (by simp <;> omega), old_box (by simp <;> omega)]; first | (rw [new_at (by simp)]; rfl) | simp
  have c1_1 : v1.cell? ⟨w.heap.size, 1, none⟩ = some (.slice ad n cp) := by rw [(bcell hb1).1 _ _ (by simp <;> omega), old_box (by simp <;> omega)]; first | (rw [new_at (by simp)]; rfl) | simp
  have c1_2 : v1.cell? ⟨w.heap.size + 1, 0, none⟩ = some (.int .i64 (d : Int)) := by rw [(bcell hb1).1 _ _ (by simp)]; first | (rw [new_at (by simp)]; rfl) | simp
  have B1 : Hid (Below w.heap.size w v1) := st1
  have R1_0 : Hid (Row 3 v1 (lo) (hi) (.slice ad n cp) n (flat L)) := HR.out.below st1 (by omega)
  have d1_0 : w.heap.size < v1.heap.size := by omega
  have e1_0 : w.heap.size ≠ v1.heap.size := by omega
  have d1_1 : w.heap.size + 1 < v1.heap.size := by omega
  have e1_1 : w.heap.size + 1 ≠ v1.heap.size := by omega
  clear st1 HR hb1
  go_wp2_with fail
  go_at_call 52
  refine (hasNode_any (M : Int) _ _ _ (d : Int) _).mono ?_
  rw [hnd]
  rintro e v2 ⟨rfl, hb2⟩
  have sz2 : v1.heap.size ≤ v2.heap.size := hb2.size
  have st2 : Below v1.heap.size v1 v2 := hb2
  have c2_0 : v2.cell? ⟨w.heap.size, 0, none⟩ = some (.int .i64 (M : Int)) := by rw [(bcell st2).1 _ _ (by omega)]; exact c1_0
  have c2_1 : v2.cell? ⟨w.heap.size, 1, none⟩ = some (.slice ad n cp) := by rw [(bcell st2).1 _ _ (by omega)]; exact c1_1
  have c2_2 : v2.cell? ⟨w.heap.size + 1, 0, none⟩ = some (.int .i64 (d : Int)) := by rw [(bcell st2).1 _ _ (by omega)]; exact c1_2
  have B2 : Hid (Below w.heap.size w v2) := B1.out.trans (st2.mono (by omega))
  have R2_0 : Hid (Row 3 v2 (lo) (hi) (.slice ad n cp) n (flat L)) := R1_0.out.below st2 (by omega)
  have d2_0 : w.heap.size < v2.heap.size := by omega
  have e2_0 : w.heap.size ≠ v2.heap.size := by omega
  have d2_1 : w.heap.size + 1 < v2.heap.size := by omega
  have e2_1 : w.heap.size + 1 ≠ v2.heap.size := by omega
  clear d1_0 e1_0 d1_1 e1_1 c1_0 c1_1 c1_2 B1 st2 R1_0 hb2
  go_wp2_with fail
  go_at_call 61
  refine (iad_any (M : Int) lo hi n _ L _ hL R2_0.out (by omega)).mono ?_
  rintro e v3 ⟨rv, rfl, hS⟩
  rw [adN_yes HG.out] at hS
  have hb3 : Below v2.heap.size v2 v3 := by obtain ⟨vs, bs, h⟩ := hS; exact h.below
  have hs3 := hb3.size
  have HB3 : Hid (Below w.heap.size w v3) := B2.out.trans (hb3.mono (by omega))
  have k00 : v3.cell? ⟨w.heap.size, 0, none⟩ = some (.int .i64 (M : Int)) := by rw [hb3.cell (p := ⟨w.heap.size, 0, none⟩) (by show _ < _; omega)]; exact c2_0
  have k01 : v3.cell? ⟨w.heap.size, 1, none⟩ = some (.slice ad n cp) := by rw [hb3.cell (p := ⟨w.heap.size, 1, none⟩) (by show _ < _; omega)]; exact c2_1
  have k20 : v3.cell? ⟨w.heap.size + 1, 0, none⟩ = some (.int .i64 (d : Int)) := by rw [hb3.cell (p := ⟨w.heap.size + 1, 0, none⟩) (by show _ < _; omega)]; exact c2_2
  obtain ⟨G, cap, rfl, hG3, hrows⟩ := SSx.get hS (by omega)
  obtain ⟨v4, hv4⟩ : ∃ v4, v4 = v3.alloc (.cells #[.slice (some ⟨G, 0, none⟩) M cap] 73) := ⟨_, rfl⟩
  have hb4 : Below v3.heap.size v3 v4 := by rw [hv4]; exact (Below.refl _ _).alloc (Nat.le_refl _) _
  have hs4 : v4.heap.size = v3.heap.size + 1 := by rw [hv4]; simp
  have hx4 : v4.cell? ⟨v3.heap.size, 0, none⟩ = some (.slice (some ⟨G, 0, none⟩) M cap) := by rw [hv4]; simp
  have HDz : Hid (Dz v3.heap.size (w.heap.size + 1) M (fun x => dsT (M : Int) L x (d : Int)) d v4) := by
    refine ⟨⟨G, cap, hx4, by omega, fun i hi => ?_⟩, by rw [hb4.cell (p := ⟨w.heap.size + 1, 0, none⟩) (by show w.heap.size + 1 < _; omega)]; exact k20, by omega, by omega, hd, by omega⟩
    obtain ⟨gi, ci, h1, h2, h3⟩ := hrows i hi (by rw [adZ_len HG.out hi]; omega)
    rw [adZ_len HG.out hi] at h1
    exact ⟨gi, ci, by rw [hb4.cell (p := ⟨G, i, none⟩) hG3]; exact h1, by omega, by rw [hb4.cell (p := ⟨gi, d, none⟩) h2]; exact h3 d _ (adZ_at HG.out hi hd)⟩
  have HB4 : Hid (Below w.heap.size w v4) := HB3.out.trans (hb4.mono (by omega))
  have hw4 : w.heap.size < v4.heap.size := by omega
  have hd3 : w.heap.size < v3.heap.size := by omega
  have he3 : w.heap.size ≠ v3.heap.size := by omega
  clear hS hrows hx4 hb3 k20 hG3 c2_0 c2_1 c2_2 B2 R2_0 d2_0 e2_0 d2_1 e2_1 hb4 hnd
  go_wp2_with fail
  rw [← hv4]
  clear hv4
  go_at_call 62
  refine (nodes_any M _ v4 (by omega) ⟨_, _, _, rfl⟩).mono ?_
  rintro e v5 ⟨nv, rfl, hO⟩
  obtain ⟨g, gc, rfl⟩ := hO.form (by omega)
  have HO := Lib.hid hO
  clear hO k00 k01
  go_wp2_with fail
  go_at_call 63
  refine (sortst_any _ _ M d g gc _ v4 v5 HDz.out HO.out).mono ?_
  rintro e v6 ⟨rfl, hO6⟩
  have HO6 := Lib.hid hO6
  clear hO6
  go_wp2_with fail
  go_ret
  have hs6 := HO6.out.below.size
  exact ⟨_, rfl, by rw [safeK_len]; exact (HO6.out.toRow (by omega)).wide (by omega) (Nat.le_refl _), HB4.out.trans (HO6.out.below.mono (by omega))⟩

theorem isafe_any (N : Int) (lo hi n : Nat) (v : Value) (L : List Ed) (d : Int) (w : World) (hL : L.length = n) (hr : Row 3 w lo hi v n (flat L)) (hh : hi ≤ w.heap.size) :
    Calls Try.prog 26 #[.agg #[.int .i64 N, v], .int .i64 d] w (LoPost (safeL N L d) w) := by
  unfold safeL
  by_cases hG : gok N L = true
  · by_cases hd : ndB N d = true
    · rw [if_pos ⟨hG, hd⟩]
      have hN := gok_parts hG
      obtain ⟨M, rfl⟩ : ∃ M : Nat, N = (M : Int) := ⟨N.toNat, by omega⟩
      unfold ndB at hd
      rw [inB_iff] at hd
      obtain ⟨o, rfl⟩ : ∃ o : Nat, d = (o : Int) := ⟨d.toNat, by omega⟩
      rw [Int.toNat_natCast]
      exact isafe_yes M lo hi n v L o w hL hr hh hG (by omega)
    · rw [if_neg (fun h => hd h.2)]
      exact isafe_no1 N lo hi n v L d w hL hr hh ⟨hG, by simpa using hd⟩
  · rw [if_neg (fun h => hG h.1)]
    exact isafe_no0 N lo hi n v L d w hL hr hh (by simpa using hG)

end Go.Proofs.Ytjenjdhoblcohaa
