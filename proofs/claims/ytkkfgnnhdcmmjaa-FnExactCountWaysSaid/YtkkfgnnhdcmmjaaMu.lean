/- Plain mathematics: the model's table of steps and ways, round by round; the flow of ways. It imports no program. -/
import Derived.Test.YtkkfgnnhdcmmjaaMw
namespace Go.Proofs.Ytkkfgnnhdcmmjaa

instance (N : Int) (L : List Ed) (o x y : Int) : Decidable (tgP N L o x y) := by unfold tgP; infer_instance
/-- The sum of f below n. -/
def psum (f : Int → Int) : Nat → Int
  | 0 => 0
  | n + 1 => psum f n + f (n : Int)
theorem psum_congr {f g : Int → Int} : ∀ (n : Nat), (∀ i : Nat, i < n → f (i : Int) = g (i : Int)) → psum f n = psum g n
  | 0, _ => rfl
  | n + 1, h => by unfold psum; rw [psum_congr n (fun i hi => h i (by omega)), h n (by omega)]
theorem psum_add (f g : Int → Int) : ∀ n, psum (fun x => f x + g x) n = psum f n + psum g n
  | 0 => rfl
  | n + 1 => by unfold psum; rw [psum_add f g n]; omega
theorem psum_mul (c : Int) (f : Int → Int) : ∀ n, psum (fun x => c * f x) n = c * psum f n
  | 0 => by simp [psum]
  | n + 1 => by unfold psum; rw [psum_mul c f n, Int.mul_add]
theorem psum_zero : ∀ n, psum (fun _ => 0) n = 0
  | 0 => rfl
  | n + 1 => by unfold psum; rw [psum_zero n]; rfl
theorem psum_swap (f : Int → Int → Int) (m : Nat) : ∀ n, psum (fun x => psum (fun y => f x y) m) n = psum (fun y => psum (fun x => f x y) n) m
  | 0 => by simp only [psum]; rw [psum_zero]
  | n + 1 => by
    have : (fun y => psum (fun x => f x y) (n + 1)) = fun y => psum (fun x => f x y) n + f (n : Int) y := rfl
    rw [this, psum_add, ← psum_swap f m n]; rfl
theorem psum_nonneg {f : Int → Int} : ∀ n, (∀ i : Nat, i < n → 0 ≤ f (i : Int)) → 0 ≤ psum f n
  | 0, _ => Int.le_refl _
  | n + 1, h => by
    have h1 := psum_nonneg n (fun i hi => h i (by omega))
    have h2 := h n (by omega)
    show 0 ≤ psum f n + f (n : Int)
    omega
theorem psum_pos {f : Int → Int} : ∀ n, (∀ i : Nat, i < n → 0 ≤ f (i : Int)) → (∃ i : Nat, i < n ∧ 0 < f (i : Int)) → 0 < psum f n
  | 0, _, h => by obtain ⟨i, hi, _⟩ := h; omega
  | n + 1, h, hp => by
    show 0 < psum f n + f (n : Int)
    obtain ⟨i, hi, h0⟩ := hp
    have h1 := psum_nonneg n (fun i hi => h i (by omega))
    have h2 := h n (by omega)
    by_cases e : i = n
    · subst e; omega
    · have := psum_pos n (fun i hi => h i (by omega)) ⟨i, by omega, h0⟩
      omega
theorem psum_le {f : Int → Int} {B : Int} : ∀ (n : Nat), (∀ i : Nat, i < n → f (i : Int) ≤ B) → psum f n ≤ (n : Int) * B
  | 0, _ => by simp [psum]
  | n + 1, h => by
    have h1 := psum_le n (fun i hi => h i (by omega))
    have h2 := h n (by omega)
    show psum f n + f (n : Int) ≤ ((n + 1 : Nat) : Int) * B
    rw [Int.natCast_add, Int.add_mul]
    omega
/-- f with z at a. -/
def upd (f : Int → Int) (a z : Int) : Int → Int := fun x => if x = a then z else f x
theorem upd_at (f : Int → Int) (a z : Int) : upd f a z a = z := if_pos rfl
theorem upd_ne {f : Int → Int} {a z x : Int} (h : x ≠ a) : upd f a z x = f x := if_neg h
theorem psum_upd (f : Int → Int) (z : Int) {a : Nat} : ∀ n, a < n → psum (upd f (a : Int) z) n = psum f n + z - f (a : Int)
  | 0, h => absurd h (Nat.not_lt_zero _)
  | n + 1, h => by
    show psum (upd f (a : Int) z) n + upd f (a : Int) z (n : Int) = psum f n + f (n : Int) + z - f (a : Int)
    by_cases e : a = n
    · subst e
      rw [upd_at, psum_congr a (g := f) (fun i hi => upd_ne (by omega))]
      omega
    · rw [psum_upd f z n (by omega), upd_ne (by omega)]
      omega
/-- Ways by one edge more. -/
def wsum (N : Int) (L : List Ed) (o : Int) (W : Int → Int) (x : Int) (j : Nat) : Int := psum (fun y => if tgP N L o x y then W y else 0) j
theorem wsum_succ (N : Int) (L : List Ed) (o : Int) (W : Int → Int) (x : Int) (j : Nat) : wsum N L o W x (j + 1) = wsum N L o W x j + if tgP N L o x (j : Int) then W (j : Int) else 0 := rfl
/-- What holds of a node that is done. -/
def DoneP (N : Int) (L : List Ed) (o : Int) (D : Int → Bool) (S W : Int → Int) (x : Int) : Prop :=
  dsT N L x o ≠ Far ∧ stp N L o x (S x) ∧ 0 < W x ∧ (x = o → W x = 1) ∧ (x ≠ o → W x = wsum N L o W x N.toNat) ∧ ∀ y, tgP N L o x y → D y = true
/-- What holds ahead of round k. -/
structure LSt (N : Int) (L : List Ed) (o : Int) (k : Nat) (D : Int → Bool) (S W : Int → Int) : Prop where
  done : ∀ x, 0 ≤ x ∧ x < N → D x = true → DoneP N L o D S W x
  open_ : ∀ x, 0 ≤ x ∧ x < N → D x = false → S x = 0 ∧ W x = 0
  bnd : ∀ x, 0 ≤ x ∧ x < N → 0 ≤ W x ∧ W x ≤ 10 ^ k ∧ 0 ≤ S x ∧ S x ≤ k
  cnt : psum (fun x => if D x = true then 1 else 0) N.toNat = k
theorem LSt.start (N : Int) (L : List Ed) (o : Int) : LSt N L o 0 (fun _ => false) (fun _ => 0) (fun _ => 0) where
  done _ _ h := by cases h
  open_ _ _ _ := ⟨rfl, rfl⟩
  bnd x _ := by simp
  cnt := by rw [psum_congr (g := fun _ => 0) _ (fun i _ => by simp), psum_zero]; rfl
/-- The node that is picked: of those not done the first of the nearest. -/
def PickP (N : Int) (L : List Ed) (o : Int) (D : Int → Bool) (at_ : Int) (j : Nat) : Prop :=
  (at_ < 0 ∧ at_ = -1 ∧ ∀ i : Nat, i < j → D (i : Int) = true ∨ dsT N L (i : Int) o = Far) ∨
  (0 ≤ at_ ∧ at_ < (j : Int) ∧ D at_ = false ∧ dsT N L at_ o < Far ∧ ∀ i : Nat, i < j → D (i : Int) = false → dsT N L at_ o ≤ dsT N L (i : Int) o)
theorem PickP.start (N : Int) (L : List Ed) (o : Int) (D : Int → Bool) : PickP N L o D (-1) 0 := .inl ⟨by omega, rfl, fun _ hi => absurd hi (Nat.not_lt_zero _)⟩
theorem PickP.take {N : Int} {L : List Ed} {o : Int} {D : Int → Bool} {a : Int} {j : Nat} (h : PickP N L o D a j) (h1 : D (j : Int) = false) (h2 : dsT N L (j : Int) o < Far) (h3 : a < 0 ∨ dsT N L (j : Int) o < dsT N L a o) : PickP N L o D (j : Int) (j + 1) := by
  refine .inr ⟨by omega, by omega, h1, h2, fun i hi hd => ?_⟩
  by_cases e : i = j
  · subst e; exact Int.le_refl _
  · rcases h with ⟨a0, a1, a2⟩ | ⟨a0, a1, a2, a3, a4⟩
    · rcases a2 i (by omega) with hh | hh
      · rw [hh] at hd; cases hd
      · omega
    · have := a4 i (by omega) hd
      omega
theorem PickP.skip {N : Int} {L : List Ed} {o : Int} {D : Int → Bool} {a : Int} {j : Nat} (hG : gok N L = true) (ho : (j : Int) < N) (h : PickP N L o D a j) (h1 : D (j : Int) = true ∨ ¬ dsT N L (j : Int) o < Far ∨ (0 ≤ a ∧ ¬ dsT N L (j : Int) o < dsT N L a o)) : PickP N L o D a (j + 1) := by
  have hb := (dsT_bnd (s := (j : Int)) hG ⟨by omega, ho⟩ o).2
  rcases h with ⟨a0, a1, a2⟩ | ⟨a0, a1, a2, a3, a4⟩
  · refine .inl ⟨a0, a1, fun i hi => ?_⟩
    by_cases e : i = j
    · subst e
      rcases h1 with h1 | h1 | h1
      · exact .inl h1
      · right; omega
      · omega
    · exact a2 i (by omega)
  · refine .inr ⟨a0, by omega, a2, a3, fun i hi hd => ?_⟩
    by_cases e : i = j
    · subst e
      rcases h1 with h1 | h1 | h1
      · rw [h1] at hd; cases hd
      · omega
      · omega
    · exact a4 i (by omega) hd
/-- The steps of a node while its edges are read. -/
def MinP (N : Int) (L : List Ed) (o : Int) (S : Int → Int) (x m : Int) (j : Nat) : Prop :=
  (m = 0 ∧ ∀ i : Nat, i < j → ¬ tgP N L o x (i : Int)) ∨ (1 ≤ m ∧ (∃ i : Nat, i < j ∧ tgP N L o x (i : Int) ∧ S (i : Int) + 1 = m) ∧ ∀ i : Nat, i < j → tgP N L o x (i : Int) → m ≤ S (i : Int) + 1)
theorem MinP.start (N : Int) (L : List Ed) (o : Int) (S : Int → Int) (x : Int) : MinP N L o S x 0 0 := .inl ⟨rfl, fun _ hi => absurd hi (Nat.not_lt_zero _)⟩
theorem MinP.pass {N : Int} {L : List Ed} {o : Int} {S : Int → Int} {x m : Int} {j : Nat} (h : MinP N L o S x m j) (hn : ¬ tgP N L o x (j : Int)) : MinP N L o S x m (j + 1) := by
  rcases h with ⟨h1, h2⟩ | ⟨h1, ⟨i, h2, h3, h4⟩, h5⟩
  · refine .inl ⟨h1, fun i hi => ?_⟩
    by_cases e : i = j
    · subst e; exact hn
    · exact h2 i (by omega)
  · refine .inr ⟨h1, ⟨i, by omega, h3, h4⟩, fun i hi ht => ?_⟩
    by_cases e : i = j
    · subst e; exact absurd ht hn
    · exact h5 i (by omega) ht
theorem MinP.less {N : Int} {L : List Ed} {o : Int} {S : Int → Int} {x m : Int} {j : Nat} (h : MinP N L o S x m j) (ht : tgP N L o x (j : Int)) (h0 : 0 ≤ S (j : Int)) (hm : m = 0 ∨ S (j : Int) + 1 < m) : MinP N L o S x (S (j : Int) + 1) (j + 1) := by
  refine .inr ⟨by omega, ⟨j, by omega, ht, rfl⟩, fun i hi ht' => ?_⟩
  by_cases e : i = j
  · subst e; exact Int.le_refl _
  · rcases h with ⟨h1, h2⟩ | ⟨h1, _, h5⟩
    · exact absurd ht' (h2 i (by omega))
    · have := h5 i (by omega) ht'; omega
theorem MinP.more {N : Int} {L : List Ed} {o : Int} {S : Int → Int} {x m : Int} {j : Nat} (h : MinP N L o S x m j) (ht : tgP N L o x (j : Int)) (hm : m ≠ 0) (hm2 : ¬ S (j : Int) + 1 < m) : MinP N L o S x m (j + 1) := by
  rcases h with ⟨h1, h2⟩ | ⟨h1, ⟨i, h2, h3, h4⟩, h5⟩
  · exact absurd h1 hm
  · refine .inr ⟨h1, ⟨i, by omega, h3, h4⟩, fun i hi ht => ?_⟩
    by_cases e : i = j
    · subst e; omega
    · exact h5 i (by omega) ht
/-- All edges of a node that is picked lead to nodes that are done. -/
theorem PickP.near {N : Int} {L : List Ed} {o : Int} {D : Int → Bool} {a : Int} (hG : gok N L = true) (h : PickP N L o D a N.toNat) (h0 : 0 ≤ a) {y : Int} (ht : tgP N L o a y) : D y = true := by
  rcases h with ⟨h1, _⟩ | ⟨h1, h2, h3, h4, h5⟩
  · omega
  · have hf := ht.facts hG
    by_cases hd : D y = true
    · exact hd
    · have := h5 y.toNat (by omega) (by rw [Int.toNat_of_nonneg hf.2.1.1]; simpa using hd)
      rw [Int.toNat_of_nonneg hf.2.1.1] at this
      omega
theorem tgP.exists {N : Int} {L : List Ed} {o x : Int} (hG : gok N L = true) (ho : 0 ≤ o ∧ o < N) (hx : 0 ≤ x ∧ x < N) (hxo : x ≠ o) (h : dsT N L x o ≠ Far) : ∃ y, tgP N L o x y := by
  obtain ⟨l, hl⟩ := Sh.ex hG ho hx h
  cases hl with
  | one => exact absurd rfl hxo
  | cons _ y _ ht _ => exact ⟨y, ht⟩
/-- What a node that is marked done asks of the others. -/
theorem DoneP.keep {N : Int} {L : List Ed} {o : Int} {D : Int → Bool} {S W : Int → Int} {a s w x : Int} (hxa : x ≠ a) (ha : D a = false) (h : DoneP N L o D S W x) : DoneP N L o (fun z => if z = a then true else D z) (upd S a s) (upd W a w) x := by
  obtain ⟨h1, h2, h3, h4, h5, h6⟩ := h
  refine ⟨h1, by rw [upd_ne hxa]; exact h2, by rw [upd_ne hxa]; exact h3, fun e => by rw [upd_ne hxa]; exact h4 e, fun e => ?_, fun y hy => ?_⟩
  · rw [upd_ne hxa, h5 e]
    unfold wsum
    refine psum_congr _ (fun i _ => ?_)
    show (if tgP N L o x (i : Int) then W (i : Int) else 0) = if tgP N L o x (i : Int) then upd W a w (i : Int) else 0
    by_cases ht : tgP N L o x (i : Int)
    · rw [if_pos ht, if_pos ht, upd_ne]
      intro e
      have := h6 _ ht
      rw [e, ha] at this
      cases this
    · rw [if_neg ht, if_neg ht]
  · show (if y = a then true else D y) = true
    split
    · rfl
    · exact h6 y hy
theorem LSt.mark {N : Int} {L : List Ed} {o : Int} {k : Nat} {D : Int → Bool} {S W : Int → Int} (h : LSt N L o k D S W) {a s w : Int} (ha : 0 ≤ a ∧ a < N) (hd : D a = false) (hb : 0 ≤ w ∧ w ≤ 10 ^ (k + 1) ∧ 0 ≤ s ∧ s ≤ ((k + 1 : Nat) : Int)) (hP : DoneP N L o (fun z => if z = a then true else D z) (upd S a s) (upd W a w) a) : LSt N L o (k + 1) (fun z => if z = a then true else D z) (upd S a s) (upd W a w) where
  done x hx hdx := by
    by_cases e : x = a
    · subst e; exact hP
    · have hdx' : D x = true := by simpa [e] using hdx
      exact (h.done x hx hdx').keep e hd
  open_ x hx hdx := by
    by_cases e : x = a
    · subst e; simp at hdx
    · rw [upd_ne e, upd_ne e]
      exact h.open_ x hx (by simpa [e] using hdx)
  bnd x hx := by
    have hp : (10 : Int) ^ k ≤ 10 ^ (k + 1) := by rw [Int.pow_succ]; have : (0 : Int) ≤ 10 ^ k := Int.pow_nonneg (by omega); omega
    by_cases e : x = a
    · subst e; rw [upd_at, upd_at]; exact hb
    · rw [upd_ne e, upd_ne e]
      have := h.bnd x hx
      omega
  cnt := by
    have e1 : (fun x => if (if x = a then true else D x) = true then (1 : Int) else 0) = upd (fun x => if D x = true then 1 else 0) ((a.toNat : Nat) : Int) 1 := by
      funext x
      unfold upd
      rw [Int.toNat_of_nonneg ha.1]
      by_cases e : x = a
      · simp [e]
      · simp [e]
    rw [e1, psum_upd _ _ _ (by omega), h.cnt, Int.toNat_of_nonneg ha.1, hd]
    simp
theorem LSt.target {N : Int} {L : List Ed} {o : Int} {k : Nat} {D : Int → Bool} {S W : Int → Int} (hG : gok N L = true) (h : LSt N L o k D S W) (ho : 0 ≤ o ∧ o < N) (hd : D o = false) : LSt N L o (k + 1) (fun z => if z = o then true else D z) (upd S o 1) (upd W o 1) := by
  refine h.mark ho hd ⟨by omega, ?_, by omega, by omega⟩ ⟨?_, ?_, ?_, fun _ => upd_at _ _ _, fun e => absurd rfl e, fun y hy => ?_⟩
  · have := Int.pow_pos (n := (10 : Int)) (m := k) (by omega)
    rw [Int.pow_succ]; omega
  · rw [dsT_self hG ho]; unfold Far; omega
  · rw [upd_at]; exact stp_o hG ho
  · rw [upd_at]; omega
  · have := (hy.facts hG).2.2.1
    rw [dsT_self hG ho] at this
    have := (dsT_bnd hG (hy.facts hG).2.1 o).1
    omega
theorem wsum_bnd {N : Int} {L : List Ed} {o : Int} {W : Int → Int} {B : Int} (hB : 0 ≤ B) {x : Int} (j : Nat) (h : ∀ i : Nat, i < j → 0 ≤ W (i : Int) ∧ W (i : Int) ≤ B) : 0 ≤ wsum N L o W x j ∧ wsum N L o W x j ≤ (j : Int) * B := by
  refine ⟨psum_nonneg _ fun i hi => ?_, psum_le _ fun i hi => ?_⟩
  · show 0 ≤ if tgP N L o x (i : Int) then W (i : Int) else 0
    split
    · exact (h i hi).1
    · exact Int.le_refl _
  · show (if tgP N L o x (i : Int) then W (i : Int) else 0) ≤ B
    split
    · exact (h i hi).2
    · exact hB
theorem LSt.node {N : Int} {L : List Ed} {o : Int} {k : Nat} {D : Int → Bool} {S W : Int → Int} (hG : gok N L = true) (h : LSt N L o k D S W) (ho : 0 ≤ o ∧ o < N) {a m : Int} (hp : PickP N L o D a N.toNat) (h0 : 0 ≤ a) (hao : a ≠ o) (hm : MinP N L o S a m N.toNat) : LSt N L o (k + 1) (fun z => if z = a then true else D z) (upd S a m) (upd W a (wsum N L o W a N.toNat)) := by
  have hN := gok_parts hG
  have hpa := hp
  rcases hp with ⟨p1, _⟩ | ⟨p1, p2, p3, p4, p5⟩
  · omega
  have ha : 0 ≤ a ∧ a < N := ⟨h0, by omega⟩
  have hd : dsT N L a o ≠ Far := by omega
  obtain ⟨y, hy⟩ := tgP.exists hG ho ha hao hd
  have hfy := hy.facts hG
  have hpk : (0 : Int) ≤ 10 ^ k := Int.pow_nonneg (by omega)
  have hws := wsum_bnd (N := N) (L := L) (o := o) (W := W) hpk (x := a) N.toNat (fun i hi => ⟨(h.bnd (i : Int) ⟨by omega, by omega⟩).1, (h.bnd (i : Int) ⟨by omega, by omega⟩).2.1⟩)
  have hDa : D a = false := p3
  rcases hm with ⟨_, m2⟩ | ⟨m1, ⟨i, m2, m3, m4⟩, m5⟩
  · have := m2 y.toNat (by omega)
    rw [Int.toNat_of_nonneg hfy.2.1.1] at this
    exact absurd hy this
  have hdone : ∀ z, tgP N L o a z → DoneP N L o D S W z := fun z hz => h.done z (hz.facts hG).2.1 (hpa.near hG h0 hz)
  have hne : ∀ z, tgP N L o a z → z ≠ a := fun z hz e => by
    have := (hz.facts hG).2.2.1
    rw [e] at this; omega
  refine h.mark ha hDa ⟨hws.1, ?_, by omega, ?_⟩ ⟨hd, ?_, ?_, fun e => absurd e hao, fun _ => ?_, fun z hz => ?_⟩
  · have e1 : (N.toNat : Int) * 10 ^ k ≤ 10 * 10 ^ k := Int.mul_le_mul_of_nonneg_right (by omega) hpk
    rw [Int.pow_succ]; omega
  · have := (h.bnd (i : Int) ⟨by omega, by omega⟩).2.2.2
    omega
  · rw [upd_at]
    refine stp_least hao (S := S) (fun z hz => (hdone z hz).2.1) ⟨(i : Int), m3, m4⟩ (fun z hz => ?_)
    have hz' := (hz.facts hG).2.1
    have := m5 z.toNat (by omega)
    rw [Int.toNat_of_nonneg hz'.1] at this
    exact this hz
  · rw [upd_at]
    refine psum_pos _ (fun j hj => ?_) ⟨i, m2, ?_⟩
    · show 0 ≤ if tgP N L o a (j : Int) then W (j : Int) else 0
      split
      · exact (h.bnd (j : Int) ⟨by omega, by omega⟩).1
      · exact Int.le_refl _
    · show 0 < if tgP N L o a (i : Int) then W (i : Int) else 0
      rw [if_pos m3]
      exact (hdone _ m3).2.2.1
  · rw [upd_at]
    unfold wsum
    refine psum_congr _ (fun j _ => ?_)
    show (if tgP N L o a (j : Int) then W (j : Int) else 0) = if tgP N L o a (j : Int) then upd W a _ (j : Int) else 0
    by_cases ht : tgP N L o a (j : Int)
    · rw [if_pos ht, if_pos ht, upd_ne (hne _ ht)]
    · rw [if_neg ht, if_neg ht]
  · show (if z = a then true else D z) = true
    rw [if_neg (hne z hz)]
    exact hpa.near hG h0 hz
/-- What the table comes to. -/
structure StepsP (N : Int) (L : List Ed) (o : Int) (S W : Int → Int) : Prop where
  step : ∀ x, 0 ≤ x ∧ x < N → dsT N L x o ≠ Far → stp N L o x (S x) ∧ 0 < W x ∧ (x = o → W x = 1) ∧ (x ≠ o → W x = wsum N L o W x N.toNat)
  far : ∀ x, 0 ≤ x ∧ x < N → dsT N L x o = Far → S x = 0 ∧ W x = 0
  bnd : ∀ x, 0 ≤ x ∧ x < N → 0 ≤ W x ∧ W x ≤ 10 ^ 10 ∧ 0 ≤ S x ∧ S x ≤ 10
theorem LSt.fin {N : Int} {L : List Ed} {o : Int} {k : Nat} {D : Int → Bool} {S W : Int → Int} (h : LSt N L o k D S W) (hk : k ≤ 10) (hall : ∀ x, 0 ≤ x ∧ x < N → D x = true ∨ dsT N L x o = Far) : StepsP N L o S W where
  step x hx hd := by
    rcases hall x hx with e | e
    · obtain ⟨_, g2, g3, g4, g5, _⟩ := h.done x hx e
      exact ⟨g2, g3, g4, g5⟩
    · exact absurd e hd
  far x hx hd := by
    by_cases e : D x = true
    · exact absurd hd (h.done x hx e).1
    · exact h.open_ x hx (by simpa using e)
  bnd x hx := by
    have h1 := h.bnd x hx
    have : (10 : Int) ^ k ≤ 10 ^ 10 := by
      obtain ⟨d, hd⟩ : ∃ d, 10 = k + d := ⟨10 - k, by omega⟩
      rw [hd, Int.pow_add]
      have h1 : (1 : Int) ≤ 10 ^ d := Int.pow_pos (n := (10 : Int)) (m := d) (by omega)
      have h2 : (0 : Int) ≤ 10 ^ k := Int.pow_nonneg (by omega)
      have := Int.mul_le_mul_of_nonneg_left h1 h2
      omega
    omega
theorem psum_ones {f : Int → Int} : ∀ (n : Nat), (∀ i : Nat, i < n → f (i : Int) ≤ 1) → psum f n = (n : Int) → ∀ i : Nat, i < n → f (i : Int) = 1
  | 0, _, _, i, hi => absurd hi (Nat.not_lt_zero _)
  | n + 1, h, e, i, hi => by
    have h1 := psum_le (f := f) (B := 1) n (fun i hi => h i (by omega))
    have h2 := h n (by omega)
    have e' : psum f n + f (n : Int) = ((n + 1 : Nat) : Int) := e
    by_cases ee : i = n
    · subst ee; omega
    · exact psum_ones n (fun i hi => h i (by omega)) (by omega) i (by omega)
theorem LSt.full {N : Int} {L : List Ed} {o : Int} {k : Nat} {D : Int → Bool} {S W : Int → Int} (hN : 0 ≤ N) (h : LSt N L o k D S W) (hk : N.toNat ≤ k) : ∀ x, 0 ≤ x ∧ x < N → D x = true := fun x hx => by
  have h0 : ∀ i : Nat, i < N.toNat → (fun x => if D x = true then (1 : Int) else 0) (i : Int) ≤ 1 := fun i _ => by
    show (if D (i : Int) = true then (1 : Int) else 0) ≤ 1
    split <;> omega
  have h1 := psum_le (f := fun x => if D x = true then (1 : Int) else 0) (B := 1) N.toNat h0
  have h2 := h.cnt
  have h3 : psum (fun x => if D x = true then (1 : Int) else 0) N.toNat = (N.toNat : Int) := by rw [h2] at h1 ⊢; omega
  have := psum_ones (f := fun x => if D x = true then (1 : Int) else 0) N.toNat h0 h3 x.toNat (by omega)
  rw [Int.toNat_of_nonneg hx.1] at this
  by_cases e : D x = true
  · exact e
  · simp [e] at this
theorem PickP.none {N : Int} {L : List Ed} {o : Int} {D : Int → Bool} {a : Int} (h : PickP N L o D a N.toNat) (h0 : a < 0) : ∀ x, 0 ≤ x ∧ x < N → D x = true ∨ dsT N L x o = Far := fun x hx => by
  rcases h with ⟨_, _, h2⟩ | ⟨h1, _⟩
  · have := h2 x.toNat (by omega)
    rw [Int.toNat_of_nonneg hx.1] at this
    exact this
  · omega
end Go.Proofs.Ytkkfgnnhdcmmjaa
