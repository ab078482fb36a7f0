/- Plain mathematics of a prefix's text: it is read in one way only. It imports no program. -/
import Derived.Test.YtegffibamkaeiaaDoorMa
import Derived.Lib.ItoaLen
import Derived.Lib.ItoaMem
import Derived.Lib.IndexMore
import Derived.Lib.Atoi
namespace Go.Proofs.YtegffibamkaeiaaDoor

theorem index_app (c : UInt8) (B : List UInt8) : ∀ A : List UInt8, c ∉ A → Lib.index (A ++ c :: B) [c] = (A.length : Int)
  | [], _ => by simp [Lib.index]
  | a :: A, h => by
    have h1 : c ≠ a := fun e => h (e ▸ List.mem_cons_self)
    have h2 : c ∉ A := fun e => h (List.mem_cons_of_mem _ e)
    have ih := index_app c B A h2
    have h4 : (((A.length : Int)) == -1) = false := by rw [beq_eq_false_iff_ne]; omega
    simp [Lib.index, ih, h4, h1]
theorem cut_app (c : UInt8) (A B : List UInt8) (h : c ∉ A) : Lib.cut (A ++ c :: B) [c] = (A, B, true) := by
  unfold Lib.cut
  rw [index_app c B A h, if_pos (by omega)]
  simp

theorem dd_digit (u : Nat) : ∀ b ∈ Lib.decDigits u, 48 ≤ b.toNat ∧ b.toNat ≤ 57 := by
  induction u using Nat.strongRecOn with
  | _ u ih =>
    intro b hb
    rw [Lib.decDigits] at hb
    have one : ∀ d, d < 10 → 48 ≤ (UInt8.ofNat (48 + d)).toNat ∧ (UInt8.ofNat (48 + d)).toNat ≤ 57 := fun d hd => by
      rw [UInt8.toNat_ofNat_of_lt' (by have : UInt8.size = 256 := rfl; omega)]; omega
    by_cases h : u < 10
    · rw [dif_pos h] at hb
      simp only [List.mem_singleton] at hb
      subst hb
      exact one u h
    · rw [dif_neg h] at hb
      rcases List.mem_append.1 hb with hb | hb
      · exact ih (u / 10) (by omega) b hb
      · simp only [List.mem_singleton] at hb
        subst hb
        exact one (u % 10) (Nat.mod_lt _ (by decide))
theorem dd_ne (u : Nat) : Lib.decDigits u ≠ [] := by
  rw [Lib.decDigits]; split <;> simp

theorem decFrom_snoc (b : UInt8) (d : Nat) (hd : Lib.digitVal b = some d) : ∀ (l : List UInt8) (acc n : Nat), Lib.decFrom acc l = some n → Lib.decFrom acc (l ++ [b]) = some (n * 10 + d)
  | [], acc, n, h => by
    simp only [Lib.decFrom, Option.some.injEq] at h
    subst h
    simp [Lib.decFrom, hd]
  | c :: l, acc, n, h => by
    simp only [Lib.decFrom, List.cons_append] at h ⊢
    split at h
    · exact decFrom_snoc b d hd l _ n h
    · cases h
theorem digit_of (d : Nat) (h : d < 10) : Lib.digitVal (UInt8.ofNat (48 + d)) = some d := by
  unfold Lib.digitVal
  rw [UInt8.toNat_ofNat_of_lt' (by have : UInt8.size = 256 := rfl; omega), if_pos (by omega)]
  congr 1; omega
theorem decFrom_dd (u : Nat) : Lib.decFrom 0 (Lib.decDigits u) = some u := by
  induction u using Nat.strongRecOn with
  | _ u ih =>
    rw [Lib.decDigits]
    by_cases h : u < 10
    · rw [dif_pos h]
      have := digit_of u h
      unfold Lib.decFrom
      rw [this]
      simp [Lib.decFrom]
    · rw [dif_neg h, decFrom_snoc _ _ (digit_of (u % 10) (Nat.mod_lt _ (by decide))) _ _ _ (ih (u / 10) (by omega))]
      congr 1; omega
theorem atoi_dd (u : Nat) : Lib.atoi (Lib.decDigits u) = some (u : Int) := by
  have hd := dd_digit u
  have hn := decFrom_dd u
  have hne := dd_ne u
  generalize Lib.decDigits u = l at *
  cases l with
  | nil => exact absurd rfl hne
  | cons b r =>
    have hb := hd b List.mem_cons_self
    have h1 : (b == 45) = false := by rw [beq_eq_false_iff_ne]; rintro rfl; exact absurd hb.1 (by decide)
    have h2 : (b == 43) = false := by rw [beq_eq_false_iff_ne]; rintro rfl; exact absurd hb.1 (by decide)
    simp [Lib.atoi, h1, h2, Lib.decNat, hn]
theorem dd_inj {u v : Nat} (h : Lib.decDigits u = Lib.decDigits v) : u = v := by
  have := decFrom_dd u
  rw [h, decFrom_dd v] at this
  simpa using this.symm

/-- The bytes of a prefix's text. -/
def textL (net n : Int) : List UInt8 := (Lib.decDigits (net / 256).toNat ++ 46 :: Lib.decDigits (net % 256).toNat) ++ 47 :: Lib.decDigits n.toNat
/-- T is the text of the valid prefix (net, n). -/
def IsText (T : List UInt8) (net n : Int) : Prop := pokB net n = true ∧ T = textL net n

theorem no_sep (u : Nat) (c : UInt8) (hc : c.toNat < 48) : c ∉ Lib.decDigits u := fun h => by
  have := dd_digit u c h; omega
theorem no_slash (net : Int) : (47 : UInt8) ∉ Lib.decDigits (net / 256).toNat ++ 46 :: Lib.decDigits (net % 256).toNat := fun h => by
  rcases List.mem_append.1 h with h | h
  · exact no_sep _ 47 (by decide) h
  · rcases List.mem_cons.1 h with h | h
    · exact absurd h (by decide)
    · exact no_sep _ 47 (by decide) h
theorem IsText.cuts {T : List UInt8} {net n : Int} (h : IsText T net n) :
    Lib.cut T [47] = (Lib.decDigits (net / 256).toNat ++ 46 :: Lib.decDigits (net % 256).toNat, Lib.decDigits n.toNat, true) ∧
    Lib.cut (Lib.decDigits (net / 256).toNat ++ 46 :: Lib.decDigits (net % 256).toNat) [46] = (Lib.decDigits (net / 256).toNat, Lib.decDigits (net % 256).toNat, true) := by
  rw [h.2]
  exact ⟨cut_app 47 _ _ (no_slash net), cut_app 46 _ _ (no_sep _ 46 (by decide))⟩
theorem IsText.uniq {T : List UInt8} {net n net' n' : Int} (h : IsText T net n) (h' : IsText T net' n') : net = net' ∧ n = n' := by
  obtain ⟨a1, a2⟩ := h.cuts
  obtain ⟨b1, b2⟩ := h'.cuts
  rw [a1] at b1
  simp only [Prod.mk.injEq, and_true] at b1
  rw [← b1.1, a2] at b2
  simp only [Prod.mk.injEq, and_true] at b2
  have e1 := dd_inj b2.1
  have e2 := dd_inj b2.2
  have e3 := dd_inj b1.2
  have p := pokB_true h.1
  have p' := pokB_true h'.1
  omega

end Go.Proofs.YtegffibamkaeiaaDoor
