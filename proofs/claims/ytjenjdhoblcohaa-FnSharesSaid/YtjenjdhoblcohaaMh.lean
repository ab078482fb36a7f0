/- Plain mathematics of binary heaps: functions on places, in whatever total order. It imports no program. -/
import Derived.WalkKit
namespace Go.Proofs.Ytjenjdhoblcohaa

section
variable {α : Type} {le : α → α → Prop}
structure TotPre (le : α → α → Prop) : Prop where
  refl : ∀ a, le a a
  trans : ∀ a b c, le a b → le b c → le a c
  total : ∀ a b, le a b ∨ le b a
def Ord (le : α → α → Prop) (f : Nat → α) (n : Nat) : Prop := ∀ i, 0 < i → i < n → le (f ((i - 1) / 2)) (f i)
theorem Ord.min (h : TotPre le) {f : Nat → α} {n : Nat} (ho : Ord le f n) : ∀ i, i < n → le (f 0) (f i) := by
  intro i
  induction i using Nat.strongRecOn with
  | _ i ih =>
    intro hi
    by_cases h0 : i = 0
    · subst h0; exact h.refl _
    · exact h.trans _ _ _ (ih ((i - 1) / 2) (by omega) (by omega)) (ho i (by omega) hi)
/-- Two places exchanged. -/
def sw (f : Nat → α) (i j : Nat) : Nat → α := fun q => if q = i then f j else if q = j then f i else f q
theorem sw_l (f : Nat → α) (i j : Nat) : sw f i j i = f j := by simp [sw]
theorem sw_r (f : Nat → α) (i j : Nat) : sw f i j j = f i := by
  unfold sw; split
  · rename_i h; rw [h]
  · simp
theorem sw_o (f : Nat → α) {i j q : Nat} (h1 : q ≠ i) (h2 : q ≠ j) : sw f i j q = f q := by simp [sw, h1, h2]
def Mem (f : Nat → α) (n : Nat) (x : α) : Prop := ∃ i, i < n ∧ f i = x
theorem mem_sw {f : Nat → α} {n i j : Nat} (hi : i < n) (hj : j < n) (x : α) : Mem (sw f i j) n x ↔ Mem f n x := by
  constructor
  · rintro ⟨q, hq, rfl⟩
    by_cases h1 : q = i
    · subst h1; exact ⟨j, hj, (sw_l f q j).symm⟩
    · by_cases h2 : q = j
      · subst h2; exact ⟨i, hi, (sw_r f i q).symm⟩
      · exact ⟨q, hq, (sw_o f h1 h2).symm⟩
  · rintro ⟨q, hq, rfl⟩
    by_cases h1 : q = i
    · subst h1; exact ⟨j, hj, sw_r f q j⟩
    · by_cases h2 : q = j
      · subst h2; exact ⟨i, hi, sw_l f i q⟩
      · exact ⟨q, hq, sw_o f h1 h2⟩
/-- One place more. -/
def app (f : Nat → α) (n : Nat) (t : α) : Nat → α := fun q => if q = n then t else f q
theorem app_n (f : Nat → α) (n : Nat) (t : α) : app f n t n = t := by simp [app]
theorem app_o (f : Nat → α) {n q : Nat} (t : α) (h : q ≠ n) : app f n t q = f q := by simp [app, h]
theorem mem_app {f : Nat → α} {n : Nat} {t : α} (x : α) : Mem (app f n t) (n + 1) x ↔ Mem f n x ∨ x = t := by
  constructor
  · rintro ⟨q, hq, rfl⟩
    by_cases h : q = n
    · subst h; exact .inr (app_n _ _ _)
    · exact .inl ⟨q, by omega, (app_o f t h).symm⟩
  · rintro (⟨q, hq, rfl⟩ | rfl)
    · exact ⟨q, by omega, app_o f t (by omega)⟩
    · exact ⟨n, by omega, app_n _ _ _⟩

/-! Up -/
def UpOrd (le : α → α → Prop) (f : Nat → α) (n a : Nat) : Prop :=
  (∀ i, 0 < i → i < n → i ≠ a → le (f ((i - 1) / 2)) (f i)) ∧ (0 < a → ∀ i, 0 < i → i < n → (i - 1) / 2 = a → le (f ((a - 1) / 2)) (f i))
theorem up_start {f : Nat → α} {n : Nat} (t : α) (h : Ord le f n) : UpOrd le (app f n t) (n + 1) n := by
  refine ⟨fun i h0 hi hn => ?_, fun h0 i hi0 hi hp => by omega⟩
  rw [app_o f t (show (i - 1) / 2 ≠ n by omega), app_o f t hn]
  exact h i h0 (by omega)
theorem up_step (ht : TotPre le) {f : Nat → α} {n a : Nat} (h : UpOrd le f n a) (h0 : 0 < a) (ha : a < n) (hl : le (f a) (f ((a - 1) / 2))) : UpOrd le (sw f a ((a - 1) / 2)) n ((a - 1) / 2) := by
  obtain ⟨h1, h2⟩ := h
  have hp : (a - 1) / 2 ≠ a := by omega
  refine ⟨fun i hi0 hi hne => ?_, fun hp0 i hi0 hi hpi => ?_⟩
  · by_cases e : i = a
    · subst e
      rw [sw_r, sw_l]; exact hl
    · rw [sw_o f (q := i) e hne]
      by_cases e1 : (i - 1) / 2 = a
      · rw [e1, sw_l]; exact h2 h0 i hi0 hi e1
      · by_cases e2 : (i - 1) / 2 = (a - 1) / 2
        · rw [e2, sw_r]
          have := h1 i hi0 hi e
          rw [e2] at this
          exact ht.trans _ _ _ hl this
        · rw [sw_o f e1 e2]; exact h1 i hi0 hi e
  · have hpp : ((a - 1) / 2 - 1) / 2 ≠ a := by omega
    have hpq : ((a - 1) / 2 - 1) / 2 ≠ (a - 1) / 2 := by omega
    rw [sw_o f hpp hpq]
    have hg := h1 ((a - 1) / 2) hp0 (by omega) hp
    by_cases e : i = a
    · subst e; rw [sw_l]; exact hg
    · rw [sw_o f (q := i) e (by omega)]
      have := h1 i hi0 hi e
      rw [hpi] at this
      exact ht.trans _ _ _ hg this
theorem up_done {f : Nat → α} {n a : Nat} (h : UpOrd le f n a) (hd : a = 0 ∨ le (f ((a - 1) / 2)) (f a)) : Ord le f n := by
  intro i hi0 hi
  by_cases e : i = a
  · subst e
    rcases hd with hd | hd
    · omega
    · exact hd
  · exact h.1 i hi0 hi e

/-! Down -/
def DnOrd (le : α → α → Prop) (f : Nat → α) (n a : Nat) : Prop :=
  (∀ i, 0 < i → i < n → (i - 1) / 2 ≠ a → le (f ((i - 1) / 2)) (f i)) ∧ (0 < a → ∀ i, 0 < i → i < n → (i - 1) / 2 = a → le (f ((a - 1) / 2)) (f i))
theorem dn_start {f : Nat → α} {n : Nat} (t : α) (h : Ord le f n) : DnOrd le (fun q => if q = 0 then t else f q) (n - 1) 0 := by
  refine ⟨fun i h0 hi hp => ?_, fun h0 => absurd h0 (Nat.lt_irrefl _)⟩
  show le (if (i - 1) / 2 = 0 then t else f ((i - 1) / 2)) (if i = 0 then t else f i)
  rw [if_neg hp, if_neg (by omega)]
  exact h i h0 (by omega)
theorem dn_step {f : Nat → α} {n a b : Nat} (h : DnOrd le f n a) (hb : b = 2 * a + 1 ∨ b = 2 * a + 2) (hbn : b < n) (hba : le (f b) (f a)) (hbc : ∀ i, 0 < i → i < n → (i - 1) / 2 = a → le (f b) (f i)) : DnOrd le (sw f a b) n b := by
  obtain ⟨h1, h2⟩ := h
  have hne : b ≠ a := by omega
  refine ⟨fun i hi0 hi hp => ?_, fun _ i hi0 hi hp => ?_⟩
  · by_cases e : i = b
    · subst e
      rw [show (i - 1) / 2 = a by omega, sw_l, sw_r]; exact hba
    · by_cases e1 : i = a
      · subst e1
        rw [sw_l, sw_o f (show (i - 1) / 2 ≠ i by omega) hp]
        exact h2 hi0 b (by omega) hbn (by omega)
      · rw [sw_o f e1 e]
        by_cases e2 : (i - 1) / 2 = a
        · rw [e2, sw_l]; exact hbc i hi0 hi e2
        · rw [sw_o f e2 hp]; exact h1 i hi0 hi e2
  · rw [show (b - 1) / 2 = a by omega, sw_l, sw_o f (q := i) (by omega) (by omega)]
    have := h1 i hi0 hi (by omega)
    rw [hp] at this
    exact this
theorem dn_done {f : Nat → α} {n a : Nat} (h : DnOrd le f n a) (hd : ∀ i, 0 < i → i < n → (i - 1) / 2 = a → le (f a) (f i)) : Ord le f n := by
  intro i hi0 hi
  by_cases e : (i - 1) / 2 = a
  · rw [e]; exact hd i hi0 hi e
  · exact h.1 i hi0 hi e
end

/-! Trails: cost, nodes -/
abbrev Tr := Int × List Int
def lexB : List Int → List Int → Bool
  | [], [] => false
  | [], _ :: _ => true
  | _ :: _, [] => false
  | a :: as, b :: bs => decide (a < b) || (decide (a = b) && lexB as bs)
theorem lexB_irrefl : ∀ l, lexB l l = false
  | [] => rfl
  | a :: as => by simp [lexB, lexB_irrefl as]
theorem lexB_trans : ∀ a b c, lexB a b = true → lexB b c = true → lexB a c = true
  | [], [], c, h, _ => by simp [lexB] at h
  | [], _ :: _, [], _, h => by simp [lexB] at h
  | [], _ :: _, _ :: _, _, _ => rfl
  | _ :: _, [], _, h, _ => by simp [lexB] at h
  | _ :: _, _ :: _, [], _, h => by simp [lexB] at h
  | x :: as, y :: bs, z :: cs, h1, h2 => by
    simp only [lexB, Bool.or_eq_true, Bool.and_eq_true, decide_eq_true_eq] at *
    rcases h1 with h1 | ⟨h1, h1'⟩
    · rcases h2 with h2 | ⟨h2, _⟩
      · left; omega
      · left; omega
    · rcases h2 with h2 | ⟨h2, h2'⟩
      · left; omega
      · right; exact ⟨by omega, lexB_trans as bs cs h1' h2'⟩
theorem lexB_total : ∀ a b, lexB a b = false → lexB b a = false → a = b
  | [], [], _, _ => rfl
  | [], _ :: _, h, _ => by simp [lexB] at h
  | _ :: _, [], _, h => by simp [lexB] at h
  | x :: as, y :: bs, h1, h2 => by
    simp only [lexB, Bool.or_eq_false_iff, Bool.and_eq_false_iff, decide_eq_false_iff_not] at *
    have e : x = y := by omega
    subst e
    rw [lexB_total as bs (by rcases h1.2 with h | h; exact absurd rfl h; exact h) (by rcases h2.2 with h | h; exact absurd rfl h; exact h)]
/-- Which trail is preferred. -/
def ltB (t u : Tr) : Bool := decide (t.1 < u.1) || (decide (t.1 = u.1) && (decide (t.2.length < u.2.length) || (decide (t.2.length = u.2.length) && lexB t.2 u.2)))
theorem ltB_trans (a b c : Tr) (h1 : ltB a b = true) (h2 : ltB b c = true) : ltB a c = true := by
  simp only [ltB, Bool.or_eq_true, Bool.and_eq_true, decide_eq_true_eq] at *
  rcases h1 with h1 | ⟨h1, h1' | ⟨h1', h1''⟩⟩
  · rcases h2 with h2 | ⟨h2, _⟩ <;> (left; omega)
  · rcases h2 with h2 | ⟨h2, h2' | ⟨h2', _⟩⟩
    · left; omega
    · right; exact ⟨by omega, .inl (by omega)⟩
    · right; exact ⟨by omega, .inl (by omega)⟩
  · rcases h2 with h2 | ⟨h2, h2' | ⟨h2', h2''⟩⟩
    · left; omega
    · right; exact ⟨by omega, .inl (by omega)⟩
    · right; exact ⟨by omega, .inr ⟨by omega, lexB_trans _ _ _ h1'' h2''⟩⟩
theorem ltB_irrefl (a : Tr) : ltB a a = false := by simp [ltB, lexB_irrefl]
theorem ltB_total (a b : Tr) (h1 : ltB a b = false) (h2 : ltB b a = false) : a = b := by
  simp only [ltB, Bool.or_eq_false_iff, Bool.and_eq_false_iff, decide_eq_false_iff_not] at h1 h2
  have e : a.1 = b.1 := by omega
  have g1 := h1.2.resolve_left (fun h => h e)
  have g2 := h2.2.resolve_left (fun h => h e.symm)
  have el : a.2.length = b.2.length := by omega
  have l1 := g1.2.resolve_left (fun h => h el)
  have l2 := g2.2.resolve_left (fun h => h el.symm)
  exact Prod.ext e (lexB_total _ _ l1 l2)
/-- a does not stand behind b. -/
def leT (a b : Tr) : Prop := ltB b a = false
theorem leT_pre : TotPre leT where
  refl a := ltB_irrefl a
  trans a b c h1 h2 := by
    unfold leT at *
    by_cases h : ltB c a = true
    · by_cases e : ltB b c = true
      · have := ltB_trans _ _ _ e h
        rw [h1] at this; exact absurd this (by decide)
      · rw [Bool.not_eq_true] at e
        have := ltB_total _ _ e h2
        subst this
        rw [h1] at h; exact absurd h (by decide)
    · rwa [Bool.not_eq_true] at h
  total a b := by
    unfold leT
    by_cases h : ltB b a = true
    · right
      by_cases h' : ltB a b = true
      · have := ltB_trans _ _ _ h h'
        rw [ltB_irrefl] at this; exact absurd this (by decide)
      · rwa [Bool.not_eq_true] at h'
    · left; rwa [Bool.not_eq_true] at h
theorem leT_of_lt {a b : Tr} (h : ltB a b = true) : leT a b := by
  unfold leT
  by_cases h' : ltB b a = true
  · have := ltB_trans _ _ _ h h'
    rw [ltB_irrefl] at this; exact absurd this (by decide)
  · rwa [Bool.not_eq_true] at h'

end Go.Proofs.Ytjenjdhoblcohaa
