/- What additions put into a sketch. -/
import Derived.Test.YtophppnllkadoaaK19
namespace Go.Proofs.Ytophppnllkadoaa
open Go.RowKit


/-- What a list of additions puts into the cells; their sum. -/
def shF : List Ad → Nat → Nat → Int
  | [] => fun _ _ => 0
  | a :: L => fun i j => (if j = colN i a.1 then a.2 else 0) + shF L i j
def shT : List Ad → Int
  | [] => 0
  | a :: L => a.2 + shT L
def truth (key : Int) : List Ad → Int
  | [] => 0
  | a :: L => (if a.1 = key then a.2 else 0) + truth key L
def adsOk (L : List Ad) : Prop := ∀ a ∈ L, keyB a.1 = true ∧ inB a.2 1 1000000 = true
theorem shF_app (L : List Ad) (a : Ad) (i j : Nat) : shF (L ++ [a]) i j = shF L i j + if j = colN i a.1 then a.2 else 0 := by
  induction L with
  | nil => simp [shF]
  | cons b L ih => simp only [List.cons_append, shF, ih]; omega
theorem shT_app (L : List Ad) (a : Ad) : shT (L ++ [a]) = shT L + a.2 := by
  induction L with
  | nil => simp [shT]
  | cons b L ih => simp only [List.cons_append, shT, ih]; omega
theorem adsOk_tail {a : Ad} {L : List Ad} (h : adsOk (a :: L)) : adsOk L := fun b hb => h b (List.mem_cons_of_mem _ hb)
theorem adsOk_app {L : List Ad} {a : Ad} (h : adsOk L) (hk : keyB a.1 = true) (hn : inB a.2 1 1000000 = true) : adsOk (L ++ [a]) := by
  intro b hb
  rcases List.mem_append.1 hb with hb | hb
  · exact h b hb
  · obtain rfl := List.mem_singleton.1 hb
    exact ⟨hk, hn⟩
theorem shF_pos {L : List Ad} (h : adsOk L) (i j : Nat) : 0 ≤ shF L i j := by
  induction L with
  | nil => exact Int.le_refl _
  | cons b L ih =>
    have h1 := ih (adsOk_tail h)
    have h2 := inB_iff.1 (h b (List.mem_cons_self)).2
    simp only [shF]
    split <;> omega
theorem sumL_add (g h : Nat → Int) (l : List Nat) : sumL (l.map fun j => g j + h j) = sumL (l.map g) + sumL (l.map h) := by
  induction l with
  | nil => rfl
  | cons x l ih => simp only [List.map_cons, sumL, ih]; omega
theorem row_sh {L : List Ad} (h : adsOk L) {i : Nat} (hi : i < 4) : RowP (mrow (shF L) i) (shT L) := by
  refine ⟨fun x hx => ?_, ?_⟩
  · obtain ⟨j, _, rfl⟩ := List.mem_map.1 hx
    exact shF_pos h i j
  · induction L with
    | nil => simp [mrow, shF, shT, List.range_succ, sumL]
    | cons b L ih =>
      have h1 := ih (adsOk_tail h)
      obtain ⟨hk, hn⟩ := h b (List.mem_cons_self)
      have h2 := (row_one (colN i b.1) (colN_eq hi hk).2 b.2 (by have := inB_iff.1 hn; omega)).2
      have h3 := sumL_add (fun j => if j = colN i b.1 then b.2 else 0) (shF L i) (List.range 16)
      unfold mrow at h1 ⊢
      show sumL ((List.range 16).map fun j => (if j = colN i b.1 then b.2 else 0) + shF L i j) = b.2 + shT L
      omega
theorem sk_sh {L : List Ad} (h : adsOk L) (ht : shT L ≤ 1000000000000) : SkP (shT L) (mat (shF L)) := by
  refine ⟨mat_len _, ht, fun i l hl => ?_⟩
  have hi : i < 4 := by have := lt_of_at hl; rw [mat_len] at this; exact this
  rw [mat_at _ hi] at hl
  obtain rfl := Option.some.inj hl
  exact ⟨mrow_len _ _, row_sh h hi⟩
theorem akS_sh (L : List Ad) (a : Ad) : akS (mat (shF L)) a.1 a.2 = mat (shF (L ++ [a])) := mat_congr fun i j hi hj => by rw [cellD_mat _ hi hj, shF_app]
theorem sumD_sh (P Q : List Ad) : sumD (mat (shF P)) (mat (shF Q)) = mat fun i j => shF P i j + shF Q i j := mat_congr fun i j hi hj => by rw [cellD_mat _ hi hj, cellD_mat _ hi hj]
theorem truth_le {L : List Ad} (h : adsOk L) (key : Int) (i : Nat) : truth key L ≤ shF L i (colN i key) := by
  induction L with
  | nil => exact Int.le_refl _
  | cons b L ih =>
    have h1 := ih (adsOk_tail h)
    have h2 := inB_iff.1 (h b (List.mem_cons_self)).2
    simp only [truth, shF]
    by_cases e : b.1 = key
    · rw [if_pos e, if_pos (by rw [e])]; omega
    · rw [if_neg e]
      split <;> omega
theorem celV_mat (f : Nat → Nat → Int) {key : Int} (hk : keyB key = true) {r : Nat} (hr : r < 4) : celV (mat f) key r = f r (colN r key) := celV_at (mat_at f hr) (mrow_at f r (colN_eq hr hk).2)
theorem minK_low {t x : Int} {D : List (List Int)} {key : Int} (h0 : x ≤ t) (h : ∀ r, r < 4 → x ≤ celV D key r) : ∀ r, r ≤ 4 → x ≤ minK t D key r
  | 0, _ => h0
  | r + 1, hr => by
    have h1 := minK_low h0 h r (by omega)
    have h2 := h r (by omega)
    show x ≤ if _ then _ else _
    split <;> omega
/-- An estimate is no less than the truth and no more than the total. -/
theorem est_between {L : List Ad} (h : adsOk L) (ht : shT L ≤ 1000000000000) {key : Int} (hk : keyB key = true) : truth key L ≤ estV (shT L) (mat (shF L)) key ∧ estV (shT L) (mat (shF L)) key ≤ shT L := by
  have hs := sk_sh h ht
  rw [estV_yes (skB_iff.2 hs) hk]
  refine ⟨minK_low ?_ (fun r hr => by rw [celV_mat _ hk hr]; exact truth_le h key r) 4 (Nat.le_refl _), (minK_bnd hs hk 4 (Nat.le_refl _)).2⟩
  have h1 := truth_le h key 0
  have h2 := (row_sh h (i := 0) (by decide)).le (mrow_at (shF L) 0 (colN_eq (r := 0) (by decide) hk).2)
  omega
/-- An addition that is ok is taken. -/
theorem ak_sh {L : List Ad} (h : adsOk L) (a : Ad) (ht : shT L + a.2 ≤ 1000000000000) (hk : keyB a.1 = true) (hn : inB a.2 1 1000000 = true) : akB (shT L) (mat (shF L)) a.1 a.2 = true ∧ akD (shT L) (mat (shF L)) a.1 a.2 = mat (shF (L ++ [a])) ∧ akT (shT L) (mat (shF L)) a.1 a.2 = shT (L ++ [a]) := by
  have hn' := inB_iff.1 hn
  have e : akB (shT L) (mat (shF L)) a.1 a.2 = true := by
    unfold akB
    rw [skB_iff.2 (sk_sh h (by omega)), hk, hn, akS_sh, ← shT_app, skB_iff.2 (sk_sh (adsOk_app h hk hn) (by rw [shT_app]; exact ht))]
    rfl
  exact ⟨e, by rw [(ak_yes e).1, akS_sh], by rw [(ak_yes e).2, shT_app]⟩
/-- An addition that is not ok is refused. -/
theorem ak_not {t : Int} {D : List (List Int)} {key num : Int} (h : ¬ (keyB key = true ∧ inB num 1 1000000 = true)) : akB t D key num = false := by
  unfold akB
  cases hk : keyB key with
  | false => cases skB t D <;> rfl
  | true =>
    cases hn : inB num 1 1000000 with
    | false => cases skB t D <;> rfl
    | true => exact absurd ⟨hk, hn⟩ h

end Go.Proofs.Ytophppnllkadoaa
